/- Instructions and their bytes: plain. -/
import Derived.Test.YtjfmadhcbgdakaaPbv
import Derived.Test.YtjfmadhcbgdakaaByt
namespace Go.Proofs.Ytjfmadhcbgdakaa
open Go.RowKit
namespace Ev
set_option linter.unusedVariables false
set_option linter.unusedSimpArgs false
theorem by1 (u : Int) : IntKind.u8.wrap (IntKind.u64.wrap u / (2 ^ (8 * 0) : Int)) = IntKind.u64.wrap u % 256 := by
 rw [Za3, show (2 ^ (8 * 0) : Int) = 1 from rfl, Int.ediv_one]
theorem by2 (u : Int) : IntKind.u8.wrap (IntKind.u64.wrap u / (2 ^ (8 * 1) : Int)) = ((IntKind.u64.wrap u) / (256 : Int)) % (256 : Int) := by
 rw [Za3, show (2 ^ (8 * 1) : Int) = 256 from rfl]
theorem by3 (u : Int) : IntKind.u8.wrap (IntKind.u64.wrap u / (2 ^ (8 * 2) : Int)) = (((IntKind.u64.wrap u) / (256 : Int)) / (256 : Int)) % (256 : Int) := by
 rw [Za3, show (2 ^ (8 * 2) : Int) = 65536 from rfl]
 generalize IntKind.u64.wrap u = x
 omega
theorem by4 (u : Int) : IntKind.u8.wrap (IntKind.u64.wrap u / (2 ^ (8 * 3) : Int)) = ((((IntKind.u64.wrap u) / (256 : Int)) / (256 : Int)) / (256 : Int)) % (256 : Int) := by
 rw [Za3, show (2 ^ (8 * 3) : Int) = 16777216 from rfl]
 generalize IntKind.u64.wrap u = x
 omega
theorem by5 (u : Int) : IntKind.u8.wrap (IntKind.u64.wrap u / (2 ^ (8 * 4) : Int)) = (((((IntKind.u64.wrap u) / (256 : Int)) / (256 : Int)) / (256 : Int)) / (256 : Int)) % (256 : Int) := by
 rw [Za3, show (2 ^ (8 * 4) : Int) = 4294967296 from rfl]
 generalize IntKind.u64.wrap u = x
 omega
theorem by6 (u : Int) : IntKind.u8.wrap (IntKind.u64.wrap u / (2 ^ (8 * 5) : Int)) = ((((((IntKind.u64.wrap u) / (256 : Int)) / (256 : Int)) / (256 : Int)) / (256 : Int)) / (256 : Int)) % (256 : Int) := by
 rw [Za3, show (2 ^ (8 * 5) : Int) = 1099511627776 from rfl]
 generalize IntKind.u64.wrap u = x
 omega
theorem by7 (u : Int) : IntKind.u8.wrap (IntKind.u64.wrap u / (2 ^ (8 * 6) : Int)) = (((((((IntKind.u64.wrap u) / (256 : Int)) / (256 : Int)) / (256 : Int)) / (256 : Int)) / (256 : Int)) / (256 : Int)) % (256 : Int) := by
 rw [Za3, show (2 ^ (8 * 6) : Int) = 281474976710656 from rfl]
 generalize IntKind.u64.wrap u = x
 omega
theorem by8 (u : Int) : IntKind.u8.wrap (IntKind.u64.wrap u / (2 ^ (8 * 7) : Int)) = ((((((((IntKind.u64.wrap u) / (256 : Int)) / (256 : Int)) / (256 : Int)) / (256 : Int)) / (256 : Int)) / (256 : Int)) / (256 : Int)) % (256 : Int) := by
 rw [Za3, show (2 ^ (8 * 7) : Int) = 72057594037927936 from rfl]
 generalize IntKind.u64.wrap u = x
 omega
theorem ZdM (n a : Int) (N : Nat) : ∃ b, Zz 1 n a N = some (.r0 b) ∧ (b = true → (0 : Int) ≤ n ∧ n ≤ 7) := by
 refine ⟨decide ((0 : Int) ≤ n ∧ n ≤ 7), ?_, fun h => by simpa using h⟩
 unfold Zz; rw [if_pos rfl]; by_cases h1 : (0 : Int) ≤ n <;> by_cases h2 : n ≤ 7 <;> simp [h1, h2]
theorem fr_2 (n a : Int) (N : Nat) : ∃ b, Zz 2 n a N = some (.r0 b) ∧ (b = true → (0 : Int) ≤ n ∧ n ≤ 15) := by
 refine ⟨decide ((0 : Int) ≤ n ∧ n ≤ 15), ?_, fun h => by simpa using h⟩
 unfold Zz; rw [if_neg (by decide), if_pos rfl]; by_cases h1 : (0 : Int) ≤ n <;> by_cases h2 : n ≤ 15 <;> simp [h1, h2]
theorem fr_3 (n a : Int) (N : Nat) : ∃ b, Zz 3 n a N = some (.r0 b) ∧ (b = true → (1 : Int) ≤ n ∧ n ≤ 16) := by
 refine ⟨decide ((1 : Int) ≤ n ∧ n ≤ 16), ?_, fun h => by simpa using h⟩
 unfold Zz; rw [if_neg (by decide), if_neg (by decide), if_pos rfl]; by_cases h1 : (1 : Int) ≤ n <;> by_cases h2 : n ≤ 16 <;> simp [h1, h2]
theorem fr_4 (n a : Int) (N : Nat) : ∃ b, Zz 4 n a N = some (.r0 b) ∧ (b = true → (0 : Int) ≤ n ∧ n ≤ 512) := by
 refine ⟨decide ((0 : Int) ≤ n ∧ n ≤ 512), ?_, fun h => by simpa using h⟩
 unfold Zz; rw [if_neg (by decide), if_neg (by decide), if_neg (by decide), if_pos rfl]; by_cases h1 : (0 : Int) ≤ n <;> by_cases h2 : n ≤ 512 <;> simp [h1, h2]
theorem fr_6 (n a : Int) (N : Nat) : ∃ b, Zz 6 n a N = some (.r0 b) ∧ (b = true → (-1099511627776 : Int) ≤ n ∧ n ≤ 1099511627776) := by
 refine ⟨decide ((-1099511627776 : Int) ≤ n ∧ n ≤ 1099511627776), ?_, fun h => by simpa using h⟩
 unfold Zz; rw [if_neg (by decide), if_neg (by decide), if_neg (by decide), if_neg (by decide), if_neg (by decide), if_pos rfl]; by_cases h1 : (-1099511627776 : Int) ≤ n <;> by_cases h2 : n ≤ 1099511627776 <;> simp [h1, h2]
theorem Zds (n a : Int) (N : Nat) : ∃ b, Zz 0 n a N = some (.r0 b) ∧ (b = true → n = 0) := by
 refine ⟨decide (n = 0), ?_, fun h => by simpa using h⟩
 unfold Zz; rw [if_neg (by decide), if_neg (by decide), if_neg (by decide), if_neg (by decide), if_neg (by decide), if_neg (by decide)]
 by_cases h1 : (0 : Int) ≤ n <;> by_cases h2 : n ≤ 0 <;> simp [h1, h2] <;> omega
theorem fr_5 (n a : Int) (N : Nat) (h1 : 1 ≤ a) (h2 : a ≤ 16) : ∃ b, Zz 5 n a N = some (.r0 b) ∧ (b = true → 0 ≤ n ∧ n ≤ 65535) := by
 obtain ⟨k, hk, k1, k2⟩ := ZqH h1 h2
 have w1 : IntKind.i64.wrap ((1 : Int) * (2 ^ a.toNat : Int)) = (k : Int) := by rw [hk]; exact w64 (by omega) (by omega)
 refine ⟨decide (0 ≤ n ∧ n ≤ (k : Int) - 1), ?_, fun h => by have := of_decide_eq_true h; omega⟩
 unfold Zz
 rw [if_neg (by decide), if_neg (by decide), if_neg (by decide), if_neg (by decide), if_pos rfl, if_pos (by omega), if_pos (by omega), w1, w64 (by omega) (by omega)]
 by_cases h1 : (0 : Int) ≤ n <;> by_cases h2 : n ≤ (k : Int) - 1 <;> simp [h1, h2]
theorem Zai {A : Int} {w : Nat} (h : (w = 0 ∧ A = 0) ∨ (w = 1 ∧ 0 ≤ A ∧ A ≤ 255) ∨ (w = 2 ∧ 0 ≤ A ∧ A ≤ 65535) ∨ (w = 3 ∧ 0 ≤ A ∧ A ≤ 16777215) ∨ (w = 8 ∧ -1099511627776 ≤ A ∧ A ≤ 1099511627776)) : Rng w A := by
 unfold Rng; omega
structure Kd (op : Int) (N : Nat) (nm : List Int) (s0 s1 s2 h0 h1 h2 : Int) (b : Bool) (w0 w1 w2 : Nat) : Prop where
 k : ZbN op N = some (.r0 nm s0 s1 s2)
 h : Zc3 op N = some (.r0 h0 h1 h2 b)
 e : ZcN nm [] = !b
 l0 : Wd w0
 l1 : Wd w1
 l2 : Wd w2
 ws : w0 + w1 + w2 ≤ 9
 a0 : Zv s0 N = some (.r0 (w0 : Int))
 a1 : Zv s1 N = some (.r0 (w1 : Int))
 a2 : Zv s2 N = some (.r0 (w2 : Int))
 c0 : b = true → Zdd h0 N = some (.r0 (w0 : Int))
 c1 : b = true → Zdd h1 N = some (.r0 (w1 : Int))
 c2 : b = true → Zdd h2 N = some (.r0 (w2 : Int))
 enc : ∀ A B C, ZS op A B C N = some (.r0 true) → Zm op A B C N = some (.r1 (IntKind.u8.wrap op :: (Zu w0 A ++ Zu w1 B ++ Zu w2 C)))
 rg : b = true → 1 ≤ op ∧ op ≤ 20
 chk : 4 ≤ N → ∀ A B C, ∃ d, Z6 op A B C N = some (.r0 (if d = true then 0 else 100)) ∧ (d = true → b = true ∧ Rng w0 A ∧ Rng w1 B ∧ Rng w2 C)
theorem Wd.le {w : Nat} (h : Wd w) : w ≤ 8 := by unfold Wd at h; omega
theorem kd_no {op : Int} {N : Nat} (h : op < 0 ∨ 21 ≤ op ∨ op = 0) : Kd op N [] 0 0 0 0 0 0 false 0 0 0 := by
 have hk : Zay op N = some .r0 := by
  unfold Zay
  by_cases h1 : op < 0
  ·exact Zd h1 rfl
  ·by_cases h2 : 21 ≤ op
   ·exact Zw h1 <| Zd h2 rfl
   ·exact Zw h1 <| Zw h2 <| Zd (by omega) rfl
 have hk2 : ZbN op N = some (.r0 [] 0 0 0) := by
  unfold ZbN
  by_cases h1 : op < 0
  ·exact Zd h1 rfl
  ·by_cases h2 : 21 ≤ op
   ·exact Zw h1 <| Zd h2 rfl
   ·exact Zw h1 <| Zw h2 <| Zd (by omega) rfl
 have hk3 : Zc3 op N = some (.r0 0 0 0 false) := by unfold Zc3; exact Zw (by omega) <| Zw (by omega) <| Zw (by omega) <| Zw (by omega) <| Zw (by omega) <| Zw (by omega) <| Zw (by omega) <| Zw (by omega) <| Zw (by omega) <| Zw (by omega) <| Zw (by omega) <| Zw (by omega) <| Zw (by omega) <| Zw (by omega) <| Zw (by omega) <| Zw (by omega) <| Zw (by omega) <| Zw (by omega) <| Zw (by omega) <| Zw (by omega) <| rfl
 exact { k := hk2, h := hk3, e := (by decide +kernel), l0 := .inl rfl, l1 := .inl rfl, l2 := .inl rfl, ws := (by omega), a0 := rfl, a1 := rfl, a2 := rfl, rg := (fun h => by cases h), chk := fun hN A B C => ⟨false, ZdH (Zp hk rfl), (fun h => by cases h)⟩, c0 := (fun h => by cases h), c1 := (fun h => by cases h), c2 := (fun h => by cases h), enc := fun A B C hi => (by unfold Zm; exact Zp hi <| Zw (fun h => h rfl) <| Zw (by omega) <| Zw (by omega) <| Zw (by omega) <| Zw (by omega) <| Zw (by omega) <| Zw (by omega) <| Zw (by omega) <| Zw (by omega) <| Zw (by omega) <| Zw (by omega) <| Zw (by omega) <| Zw (by omega) <| Zw (by omega) <| Zw (by omega) <| Zw (by omega) <| Zw (by omega) <| Zw (by omega) <| Zw (by omega) <| Zw (by omega) <| Zw (by omega) <| rfl) }
theorem chk_1 {N : Nat} (hN : 4 ≤ N) (A B C : Int) : ∃ d, Z6 1 A B C N = some (.r0 (if d = true then 0 else 100)) ∧ (d = true → true = true ∧ Rng 1 A ∧ Rng 8 B ∧ Rng 0 C) := by
 obtain ⟨b0, p0, q0⟩ := ZdM A 0 N
 obtain ⟨b1, p1, q1⟩ := fr_6 B A N
 obtain ⟨b2, p2, q2⟩ := Zds C B N
 exact ⟨b0 && b1 && b2, (ZaC (show Zam 1 A B C N = some (.inl (.h1m0 1 6 0)) from rfl)).trans (Zeq hN p0 (fun _ => p1) (fun _ _ => p2)), fun h => by
  simp only [Bool.and_eq_true] at h
  exact ⟨rfl, Zai (by have := q0 h.1.1; omega), Zai (by have := q1 h.1.2; omega), Zai (by have := q2 h.2; omega)⟩⟩
theorem re_1 {N : Nat} (A B C : Int) (hi : ZS 1 A B C N = some (.r0 true)) : Zm 1 A B C N = some (.r1 (IntKind.u8.wrap 1 :: (Zu 1 A ++ Zu 8 B ++ Zu 0 C))) := by
 have e : Zm 1 A B C N = some (.r1 ([(1 : Int), ((IntKind.u64.wrap A) % (256 : Int)), (((((((((IntKind.u64.wrap B) / (256 : Int)) / (256 : Int)) / (256 : Int)) / (256 : Int)) / (256 : Int)) / (256 : Int)) / (256 : Int)) % (256 : Int)), ((((((((IntKind.u64.wrap B) / (256 : Int)) / (256 : Int)) / (256 : Int)) / (256 : Int)) / (256 : Int)) / (256 : Int)) % (256 : Int)), (((((((IntKind.u64.wrap B) / (256 : Int)) / (256 : Int)) / (256 : Int)) / (256 : Int)) / (256 : Int)) % (256 : Int)), ((((((IntKind.u64.wrap B) / (256 : Int)) / (256 : Int)) / (256 : Int)) / (256 : Int)) % (256 : Int)), (((((IntKind.u64.wrap B) / (256 : Int)) / (256 : Int)) / (256 : Int)) % (256 : Int)), ((((IntKind.u64.wrap B) / (256 : Int)) / (256 : Int)) % (256 : Int)), (((IntKind.u64.wrap B) / (256 : Int)) % (256 : Int)), ((IntKind.u64.wrap B) % (256 : Int))] : List Int)) := by
  unfold Zm
  rw [hi]
  exact rfl
 rw [e]
 simp only [Zu, by1, by2, by3, by4, by5, by6, by7, by8, List.cons_append, List.nil_append, List.append_nil, show IntKind.u8.wrap (1 : Int) = 1 from (Za3 1).trans (by decide)]
theorem kd_1 {N : Nat} : ∃ nm s0 s1 s2 h0 h1 h2, Kd 1 N nm s0 s1 s2 h0 h1 h2 true 1 8 0 :=
 ⟨_, _, _, _, _, _, _, { k := rfl, e := (by decide +kernel), l0 := (by unfold Wd; omega), l1 := (by unfold Wd; omega), l2 := (by unfold Wd; omega), ws := (by omega), a0 := rfl, a1 := rfl, a2 := rfl, rg := (fun _ => by omega), chk := chk_1, h := rfl, c0 := fun _ => rfl, c1 := fun _ => rfl, c2 := fun _ => rfl, enc := re_1 }⟩
theorem chk_2 {N : Nat} (hN : 4 ≤ N) (A B C : Int) : ∃ d, Z6 2 A B C N = some (.r0 (if d = true then 0 else 100)) ∧ (d = true → true = true ∧ Rng 1 A ∧ Rng 0 B ∧ Rng 0 C) := by
 obtain ⟨b0, p0, q0⟩ := ZdM A 0 N
 obtain ⟨b1, p1, q1⟩ := Zds B A N
 obtain ⟨b2, p2, q2⟩ := Zds C B N
 exact ⟨b0 && b1 && b2, (ZaC (show Zam 2 A B C N = some (.inl (.h1m0 1 0 0)) from rfl)).trans (Zeq hN p0 (fun _ => p1) (fun _ _ => p2)), fun h => by
  simp only [Bool.and_eq_true] at h
  exact ⟨rfl, Zai (by have := q0 h.1.1; omega), Zai (by have := q1 h.1.2; omega), Zai (by have := q2 h.2; omega)⟩⟩
theorem re_2 {N : Nat} (A B C : Int) (hi : ZS 2 A B C N = some (.r0 true)) : Zm 2 A B C N = some (.r1 (IntKind.u8.wrap 2 :: (Zu 1 A ++ Zu 0 B ++ Zu 0 C))) := by
 have e : Zm 2 A B C N = some (.r1 ([(2 : Int), ((IntKind.u64.wrap A) % (256 : Int))] : List Int)) := by
  unfold Zm
  rw [hi]
  exact rfl
 rw [e]
 simp only [Zu, by1, by2, by3, by4, by5, by6, by7, by8, List.cons_append, List.nil_append, List.append_nil, show IntKind.u8.wrap (2 : Int) = 2 from (Za3 2).trans (by decide)]
theorem kd_2 {N : Nat} : ∃ nm s0 s1 s2 h0 h1 h2, Kd 2 N nm s0 s1 s2 h0 h1 h2 true 1 0 0 :=
 ⟨_, _, _, _, _, _, _, { k := rfl, e := (by decide +kernel), l0 := (by unfold Wd; omega), l1 := (by unfold Wd; omega), l2 := (by unfold Wd; omega), ws := (by omega), a0 := rfl, a1 := rfl, a2 := rfl, rg := (fun _ => by omega), chk := chk_2, h := rfl, c0 := fun _ => rfl, c1 := fun _ => rfl, c2 := fun _ => rfl, enc := re_2 }⟩
theorem chk_3 {N : Nat} (hN : 4 ≤ N) (A B C : Int) : ∃ d, Z6 3 A B C N = some (.r0 (if d = true then 0 else 100)) ∧ (d = true → true = true ∧ Rng 1 A ∧ Rng 1 B ∧ Rng 0 C) := by
 obtain ⟨b0, p0, q0⟩ := ZdM A 0 N
 obtain ⟨b1, p1, q1⟩ := ZdM B A N
 obtain ⟨b2, p2, q2⟩ := Zds C B N
 exact ⟨b0 && b1 && b2, (ZaC (show Zam 3 A B C N = some (.inl (.h1m0 1 1 0)) from rfl)).trans (Zeq hN p0 (fun _ => p1) (fun _ _ => p2)), fun h => by
  simp only [Bool.and_eq_true] at h
  exact ⟨rfl, Zai (by have := q0 h.1.1; omega), Zai (by have := q1 h.1.2; omega), Zai (by have := q2 h.2; omega)⟩⟩
theorem re_3 {N : Nat} (A B C : Int) (hi : ZS 3 A B C N = some (.r0 true)) : Zm 3 A B C N = some (.r1 (IntKind.u8.wrap 3 :: (Zu 1 A ++ Zu 1 B ++ Zu 0 C))) := by
 have e : Zm 3 A B C N = some (.r1 ([(3 : Int), ((IntKind.u64.wrap A) % (256 : Int)), ((IntKind.u64.wrap B) % (256 : Int))] : List Int)) := by
  unfold Zm
  rw [hi]
  exact rfl
 rw [e]
 simp only [Zu, by1, by2, by3, by4, by5, by6, by7, by8, List.cons_append, List.nil_append, List.append_nil, show IntKind.u8.wrap (3 : Int) = 3 from (Za3 3).trans (by decide)]
theorem kd_3 {N : Nat} : ∃ nm s0 s1 s2 h0 h1 h2, Kd 3 N nm s0 s1 s2 h0 h1 h2 true 1 1 0 :=
 ⟨_, _, _, _, _, _, _, { k := rfl, e := (by decide +kernel), l0 := (by unfold Wd; omega), l1 := (by unfold Wd; omega), l2 := (by unfold Wd; omega), ws := (by omega), a0 := rfl, a1 := rfl, a2 := rfl, rg := (fun _ => by omega), chk := chk_3, h := rfl, c0 := fun _ => rfl, c1 := fun _ => rfl, c2 := fun _ => rfl, enc := re_3 }⟩
theorem chk_4 {N : Nat} (hN : 4 ≤ N) (A B C : Int) : ∃ d, Z6 4 A B C N = some (.r0 (if d = true then 0 else 100)) ∧ (d = true → true = true ∧ Rng 1 A ∧ Rng 1 B ∧ Rng 1 C) := by
 obtain ⟨b0, p0, q0⟩ := ZdM A 0 N
 obtain ⟨b1, p1, q1⟩ := ZdM B A N
 obtain ⟨b2, p2, q2⟩ := ZdM C B N
 exact ⟨b0 && b1 && b2, (ZaC (show Zam 4 A B C N = some (.inl (.h1m0 1 1 1)) from rfl)).trans (Zeq hN p0 (fun _ => p1) (fun _ _ => p2)), fun h => by
  simp only [Bool.and_eq_true] at h
  exact ⟨rfl, Zai (by have := q0 h.1.1; omega), Zai (by have := q1 h.1.2; omega), Zai (by have := q2 h.2; omega)⟩⟩
theorem re_4 {N : Nat} (A B C : Int) (hi : ZS 4 A B C N = some (.r0 true)) : Zm 4 A B C N = some (.r1 (IntKind.u8.wrap 4 :: (Zu 1 A ++ Zu 1 B ++ Zu 1 C))) := by
 have e : Zm 4 A B C N = some (.r1 ([(4 : Int), ((IntKind.u64.wrap A) % (256 : Int)), ((IntKind.u64.wrap B) % (256 : Int)), ((IntKind.u64.wrap C) % (256 : Int))] : List Int)) := by
  unfold Zm
  rw [hi]
  exact rfl
 rw [e]
 simp only [Zu, by1, by2, by3, by4, by5, by6, by7, by8, List.cons_append, List.nil_append, List.append_nil, show IntKind.u8.wrap (4 : Int) = 4 from (Za3 4).trans (by decide)]
theorem kd_4 {N : Nat} : ∃ nm s0 s1 s2 h0 h1 h2, Kd 4 N nm s0 s1 s2 h0 h1 h2 true 1 1 1 :=
 ⟨_, _, _, _, _, _, _, { k := rfl, e := (by decide +kernel), l0 := (by unfold Wd; omega), l1 := (by unfold Wd; omega), l2 := (by unfold Wd; omega), ws := (by omega), a0 := rfl, a1 := rfl, a2 := rfl, rg := (fun _ => by omega), chk := chk_4, h := rfl, c0 := fun _ => rfl, c1 := fun _ => rfl, c2 := fun _ => rfl, enc := re_4 }⟩
theorem chk_5 {N : Nat} (hN : 4 ≤ N) (A B C : Int) : ∃ d, Z6 5 A B C N = some (.r0 (if d = true then 0 else 100)) ∧ (d = true → true = true ∧ Rng 1 A ∧ Rng 1 B ∧ Rng 1 C) := by
 obtain ⟨b0, p0, q0⟩ := ZdM A 0 N
 obtain ⟨b1, p1, q1⟩ := ZdM B A N
 obtain ⟨b2, p2, q2⟩ := ZdM C B N
 exact ⟨b0 && b1 && b2, (ZaC (show Zam 5 A B C N = some (.inl (.h1m0 1 1 1)) from rfl)).trans (Zeq hN p0 (fun _ => p1) (fun _ _ => p2)), fun h => by
  simp only [Bool.and_eq_true] at h
  exact ⟨rfl, Zai (by have := q0 h.1.1; omega), Zai (by have := q1 h.1.2; omega), Zai (by have := q2 h.2; omega)⟩⟩
theorem re_5 {N : Nat} (A B C : Int) (hi : ZS 5 A B C N = some (.r0 true)) : Zm 5 A B C N = some (.r1 (IntKind.u8.wrap 5 :: (Zu 1 A ++ Zu 1 B ++ Zu 1 C))) := by
 have e : Zm 5 A B C N = some (.r1 ([(5 : Int), ((IntKind.u64.wrap A) % (256 : Int)), ((IntKind.u64.wrap B) % (256 : Int)), ((IntKind.u64.wrap C) % (256 : Int))] : List Int)) := by
  unfold Zm
  rw [hi]
  exact rfl
 rw [e]
 simp only [Zu, by1, by2, by3, by4, by5, by6, by7, by8, List.cons_append, List.nil_append, List.append_nil, show IntKind.u8.wrap (5 : Int) = 5 from (Za3 5).trans (by decide)]
theorem kd_5 {N : Nat} : ∃ nm s0 s1 s2 h0 h1 h2, Kd 5 N nm s0 s1 s2 h0 h1 h2 true 1 1 1 :=
 ⟨_, _, _, _, _, _, _, { k := rfl, e := (by decide +kernel), l0 := (by unfold Wd; omega), l1 := (by unfold Wd; omega), l2 := (by unfold Wd; omega), ws := (by omega), a0 := rfl, a1 := rfl, a2 := rfl, rg := (fun _ => by omega), chk := chk_5, h := rfl, c0 := fun _ => rfl, c1 := fun _ => rfl, c2 := fun _ => rfl, enc := re_5 }⟩
theorem chk_6 {N : Nat} (hN : 4 ≤ N) (A B C : Int) : ∃ d, Z6 6 A B C N = some (.r0 (if d = true then 0 else 100)) ∧ (d = true → true = true ∧ Rng 1 A ∧ Rng 1 B ∧ Rng 1 C) := by
 obtain ⟨b0, p0, q0⟩ := ZdM A 0 N
 obtain ⟨b1, p1, q1⟩ := ZdM B A N
 obtain ⟨b2, p2, q2⟩ := ZdM C B N
 exact ⟨b0 && b1 && b2, (ZaC (show Zam 6 A B C N = some (.inl (.h1m0 1 1 1)) from rfl)).trans (Zeq hN p0 (fun _ => p1) (fun _ _ => p2)), fun h => by
  simp only [Bool.and_eq_true] at h
  exact ⟨rfl, Zai (by have := q0 h.1.1; omega), Zai (by have := q1 h.1.2; omega), Zai (by have := q2 h.2; omega)⟩⟩
theorem re_6 {N : Nat} (A B C : Int) (hi : ZS 6 A B C N = some (.r0 true)) : Zm 6 A B C N = some (.r1 (IntKind.u8.wrap 6 :: (Zu 1 A ++ Zu 1 B ++ Zu 1 C))) := by
 have e : Zm 6 A B C N = some (.r1 ([(6 : Int), ((IntKind.u64.wrap A) % (256 : Int)), ((IntKind.u64.wrap B) % (256 : Int)), ((IntKind.u64.wrap C) % (256 : Int))] : List Int)) := by
  unfold Zm
  rw [hi]
  exact rfl
 rw [e]
 simp only [Zu, by1, by2, by3, by4, by5, by6, by7, by8, List.cons_append, List.nil_append, List.append_nil, show IntKind.u8.wrap (6 : Int) = 6 from (Za3 6).trans (by decide)]
theorem kd_6 {N : Nat} : ∃ nm s0 s1 s2 h0 h1 h2, Kd 6 N nm s0 s1 s2 h0 h1 h2 true 1 1 1 :=
 ⟨_, _, _, _, _, _, _, { k := rfl, e := (by decide +kernel), l0 := (by unfold Wd; omega), l1 := (by unfold Wd; omega), l2 := (by unfold Wd; omega), ws := (by omega), a0 := rfl, a1 := rfl, a2 := rfl, rg := (fun _ => by omega), chk := chk_6, h := rfl, c0 := fun _ => rfl, c1 := fun _ => rfl, c2 := fun _ => rfl, enc := re_6 }⟩
theorem chk_7 {N : Nat} (hN : 4 ≤ N) (A B C : Int) : ∃ d, Z6 7 A B C N = some (.r0 (if d = true then 0 else 100)) ∧ (d = true → true = true ∧ Rng 1 A ∧ Rng 1 B ∧ Rng 1 C) := by
 obtain ⟨b0, p0, q0⟩ := ZdM A 0 N
 obtain ⟨b1, p1, q1⟩ := ZdM B A N
 obtain ⟨b2, p2, q2⟩ := ZdM C B N
 exact ⟨b0 && b1 && b2, (ZaC (show Zam 7 A B C N = some (.inl (.h1m0 1 1 1)) from rfl)).trans (Zeq hN p0 (fun _ => p1) (fun _ _ => p2)), fun h => by
  simp only [Bool.and_eq_true] at h
  exact ⟨rfl, Zai (by have := q0 h.1.1; omega), Zai (by have := q1 h.1.2; omega), Zai (by have := q2 h.2; omega)⟩⟩
theorem re_7 {N : Nat} (A B C : Int) (hi : ZS 7 A B C N = some (.r0 true)) : Zm 7 A B C N = some (.r1 (IntKind.u8.wrap 7 :: (Zu 1 A ++ Zu 1 B ++ Zu 1 C))) := by
 have e : Zm 7 A B C N = some (.r1 ([(7 : Int), ((IntKind.u64.wrap A) % (256 : Int)), ((IntKind.u64.wrap B) % (256 : Int)), ((IntKind.u64.wrap C) % (256 : Int))] : List Int)) := by
  unfold Zm
  rw [hi]
  exact rfl
 rw [e]
 simp only [Zu, by1, by2, by3, by4, by5, by6, by7, by8, List.cons_append, List.nil_append, List.append_nil, show IntKind.u8.wrap (7 : Int) = 7 from (Za3 7).trans (by decide)]
theorem kd_7 {N : Nat} : ∃ nm s0 s1 s2 h0 h1 h2, Kd 7 N nm s0 s1 s2 h0 h1 h2 true 1 1 1 :=
 ⟨_, _, _, _, _, _, _, { k := rfl, e := (by decide +kernel), l0 := (by unfold Wd; omega), l1 := (by unfold Wd; omega), l2 := (by unfold Wd; omega), ws := (by omega), a0 := rfl, a1 := rfl, a2 := rfl, rg := (fun _ => by omega), chk := chk_7, h := rfl, c0 := fun _ => rfl, c1 := fun _ => rfl, c2 := fun _ => rfl, enc := re_7 }⟩
theorem chk_8 {N : Nat} (hN : 4 ≤ N) (A B C : Int) : ∃ d, Z6 8 A B C N = some (.r0 (if d = true then 0 else 100)) ∧ (d = true → true = true ∧ Rng 2 A ∧ Rng 0 B ∧ Rng 0 C) := by
 obtain ⟨b0, p0, q0⟩ := fr_4 A 0 N
 obtain ⟨b1, p1, q1⟩ := Zds B A N
 obtain ⟨b2, p2, q2⟩ := Zds C B N
 exact ⟨b0 && b1 && b2, (ZaC (show Zam 8 A B C N = some (.inl (.h1m0 4 0 0)) from rfl)).trans (Zeq hN p0 (fun _ => p1) (fun _ _ => p2)), fun h => by
  simp only [Bool.and_eq_true] at h
  exact ⟨rfl, Zai (by have := q0 h.1.1; omega), Zai (by have := q1 h.1.2; omega), Zai (by have := q2 h.2; omega)⟩⟩
theorem re_8 {N : Nat} (A B C : Int) (hi : ZS 8 A B C N = some (.r0 true)) : Zm 8 A B C N = some (.r1 (IntKind.u8.wrap 8 :: (Zu 2 A ++ Zu 0 B ++ Zu 0 C))) := by
 have e : Zm 8 A B C N = some (.r1 ([(8 : Int), (((IntKind.u64.wrap A) / (256 : Int)) % (256 : Int)), ((IntKind.u64.wrap A) % (256 : Int))] : List Int)) := by
  unfold Zm
  rw [hi]
  exact rfl
 rw [e]
 simp only [Zu, by1, by2, by3, by4, by5, by6, by7, by8, List.cons_append, List.nil_append, List.append_nil, show IntKind.u8.wrap (8 : Int) = 8 from (Za3 8).trans (by decide)]
theorem kd_8 {N : Nat} : ∃ nm s0 s1 s2 h0 h1 h2, Kd 8 N nm s0 s1 s2 h0 h1 h2 true 2 0 0 :=
 ⟨_, _, _, _, _, _, _, { k := rfl, e := (by decide +kernel), l0 := (by unfold Wd; omega), l1 := (by unfold Wd; omega), l2 := (by unfold Wd; omega), ws := (by omega), a0 := rfl, a1 := rfl, a2 := rfl, rg := (fun _ => by omega), chk := chk_8, h := rfl, c0 := fun _ => rfl, c1 := fun _ => rfl, c2 := fun _ => rfl, enc := re_8 }⟩
theorem chk_9 {N : Nat} (hN : 4 ≤ N) (A B C : Int) : ∃ d, Z6 9 A B C N = some (.r0 (if d = true then 0 else 100)) ∧ (d = true → true = true ∧ Rng 1 A ∧ Rng 2 B ∧ Rng 0 C) := by
 obtain ⟨b0, p0, q0⟩ := ZdM A 0 N
 obtain ⟨b1, p1, q1⟩ := fr_4 B A N
 obtain ⟨b2, p2, q2⟩ := Zds C B N
 exact ⟨b0 && b1 && b2, (ZaC (show Zam 9 A B C N = some (.inl (.h1m0 1 4 0)) from rfl)).trans (Zeq hN p0 (fun _ => p1) (fun _ _ => p2)), fun h => by
  simp only [Bool.and_eq_true] at h
  exact ⟨rfl, Zai (by have := q0 h.1.1; omega), Zai (by have := q1 h.1.2; omega), Zai (by have := q2 h.2; omega)⟩⟩
theorem re_9 {N : Nat} (A B C : Int) (hi : ZS 9 A B C N = some (.r0 true)) : Zm 9 A B C N = some (.r1 (IntKind.u8.wrap 9 :: (Zu 1 A ++ Zu 2 B ++ Zu 0 C))) := by
 have e : Zm 9 A B C N = some (.r1 ([(9 : Int), ((IntKind.u64.wrap A) % (256 : Int)), (((IntKind.u64.wrap B) / (256 : Int)) % (256 : Int)), ((IntKind.u64.wrap B) % (256 : Int))] : List Int)) := by
  unfold Zm
  rw [hi]
  exact rfl
 rw [e]
 simp only [Zu, by1, by2, by3, by4, by5, by6, by7, by8, List.cons_append, List.nil_append, List.append_nil, show IntKind.u8.wrap (9 : Int) = 9 from (Za3 9).trans (by decide)]
theorem kd_9 {N : Nat} : ∃ nm s0 s1 s2 h0 h1 h2, Kd 9 N nm s0 s1 s2 h0 h1 h2 true 1 2 0 :=
 ⟨_, _, _, _, _, _, _, { k := rfl, e := (by decide +kernel), l0 := (by unfold Wd; omega), l1 := (by unfold Wd; omega), l2 := (by unfold Wd; omega), ws := (by omega), a0 := rfl, a1 := rfl, a2 := rfl, rg := (fun _ => by omega), chk := chk_9, h := rfl, c0 := fun _ => rfl, c1 := fun _ => rfl, c2 := fun _ => rfl, enc := re_9 }⟩
theorem ZvL {N : Nat} (hN : 4 ≤ N) (A B C : Int) : ∃ d, Z6 10 A B C N = some (.r0 (if d = true then 0 else 100)) ∧ (d = true → true = true ∧ Rng 1 A ∧ Rng 0 B ∧ Rng 0 C) := by
 obtain ⟨b0, p0, q0⟩ := ZdM A 0 N
 obtain ⟨b1, p1, q1⟩ := Zds B A N
 obtain ⟨b2, p2, q2⟩ := Zds C B N
 exact ⟨b0 && b1 && b2, (ZaC (show Zam 10 A B C N = some (.inl (.h1m0 1 0 0)) from rfl)).trans (Zeq hN p0 (fun _ => p1) (fun _ _ => p2)), fun h => by
  simp only [Bool.and_eq_true] at h
  exact ⟨rfl, Zai (by have := q0 h.1.1; omega), Zai (by have := q1 h.1.2; omega), Zai (by have := q2 h.2; omega)⟩⟩
theorem re_10 {N : Nat} (A B C : Int) (hi : ZS 10 A B C N = some (.r0 true)) : Zm 10 A B C N = some (.r1 (IntKind.u8.wrap 10 :: (Zu 1 A ++ Zu 0 B ++ Zu 0 C))) := by
 have e : Zm 10 A B C N = some (.r1 ([(10 : Int), ((IntKind.u64.wrap A) % (256 : Int))] : List Int)) := by
  unfold Zm
  rw [hi]
  exact rfl
 rw [e]
 simp only [Zu, by1, by2, by3, by4, by5, by6, by7, by8, List.cons_append, List.nil_append, List.append_nil, show IntKind.u8.wrap (10 : Int) = 10 from (Za3 10).trans (by decide)]
theorem kd_10 {N : Nat} : ∃ nm s0 s1 s2 h0 h1 h2, Kd 10 N nm s0 s1 s2 h0 h1 h2 true 1 0 0 :=
 ⟨_, _, _, _, _, _, _, { k := rfl, e := (by decide +kernel), l0 := (by unfold Wd; omega), l1 := (by unfold Wd; omega), l2 := (by unfold Wd; omega), ws := (by omega), a0 := rfl, a1 := rfl, a2 := rfl, rg := (fun _ => by omega), chk := ZvL, h := rfl, c0 := fun _ => rfl, c1 := fun _ => rfl, c2 := fun _ => rfl, enc := re_10 }⟩
theorem ZvM {N : Nat} (hN : 4 ≤ N) (A B C : Int) : ∃ d, Z6 11 A B C N = some (.r0 (if d = true then 0 else 100)) ∧ (d = true → true = true ∧ Rng 1 A ∧ Rng 1 B ∧ Rng 3 C) := by
 obtain ⟨b0, p0, q0⟩ := ZdM A 0 N
 obtain ⟨b1, p1, q1⟩ := fr_3 B A N
 by_cases hb : b1 = true
 ·obtain ⟨b2, p2, q2⟩ := fr_5 C B N (q1 hb).1 (q1 hb).2
  exact ⟨b0 && b1 && b2, (ZaC (show Zam 11 A B C N = some (.inl (.h1m0 1 3 5)) from rfl)).trans (Zeq hN p0 (fun _ => p1) (fun _ _ => p2)), fun h => by
  simp only [Bool.and_eq_true] at h
  exact ⟨rfl, Zai (by have := q0 h.1.1; omega), Zai (by have := q1 h.1.2; omega), Zai (by have := q2 h.2; omega)⟩⟩
 ·have hb : b1 = false := by simpa using hb
  subst hb
  exact ⟨b0 && false && false, (ZaC (show Zam 11 A B C N = some (.inl (.h1m0 1 3 5)) from rfl)).trans (Zeq hN p0 (fun _ => p1) (fun _ h => by cases h)), fun h => by simp at h⟩
theorem re_11 {N : Nat} (A B C : Int) (hi : ZS 11 A B C N = some (.r0 true)) : Zm 11 A B C N = some (.r1 (IntKind.u8.wrap 11 :: (Zu 1 A ++ Zu 1 B ++ Zu 3 C))) := by
 have e : Zm 11 A B C N = some (.r1 ([(11 : Int), ((IntKind.u64.wrap A) % (256 : Int)), ((IntKind.u64.wrap B) % (256 : Int)), ((((IntKind.u64.wrap C) / (256 : Int)) / (256 : Int)) % (256 : Int)), (((IntKind.u64.wrap C) / (256 : Int)) % (256 : Int)), ((IntKind.u64.wrap C) % (256 : Int))] : List Int)) := by
  unfold Zm
  rw [hi]
  exact rfl
 rw [e]
 simp only [Zu, by1, by2, by3, by4, by5, by6, by7, by8, List.cons_append, List.nil_append, List.append_nil, show IntKind.u8.wrap (11 : Int) = 11 from (Za3 11).trans (by decide)]
theorem kd_11 {N : Nat} : ∃ nm s0 s1 s2 h0 h1 h2, Kd 11 N nm s0 s1 s2 h0 h1 h2 true 1 1 3 :=
 ⟨_, _, _, _, _, _, _, { k := rfl, e := (by decide +kernel), l0 := (by unfold Wd; omega), l1 := (by unfold Wd; omega), l2 := (by unfold Wd; omega), ws := (by omega), a0 := rfl, a1 := rfl, a2 := rfl, rg := (fun _ => by omega), chk := ZvM, h := rfl, c0 := fun _ => rfl, c1 := fun _ => rfl, c2 := fun _ => rfl, enc := re_11 }⟩
theorem ZvN {N : Nat} (hN : 4 ≤ N) (A B C : Int) : ∃ d, Z6 12 A B C N = some (.r0 (if d = true then 0 else 100)) ∧ (d = true → true = true ∧ Rng 1 A ∧ Rng 0 B ∧ Rng 0 C) := by
 obtain ⟨b0, p0, q0⟩ := ZdM A 0 N
 obtain ⟨b1, p1, q1⟩ := Zds B A N
 obtain ⟨b2, p2, q2⟩ := Zds C B N
 exact ⟨b0 && b1 && b2, (ZaC (show Zam 12 A B C N = some (.inl (.h1m0 1 0 0)) from rfl)).trans (Zeq hN p0 (fun _ => p1) (fun _ _ => p2)), fun h => by
  simp only [Bool.and_eq_true] at h
  exact ⟨rfl, Zai (by have := q0 h.1.1; omega), Zai (by have := q1 h.1.2; omega), Zai (by have := q2 h.2; omega)⟩⟩
theorem re_12 {N : Nat} (A B C : Int) (hi : ZS 12 A B C N = some (.r0 true)) : Zm 12 A B C N = some (.r1 (IntKind.u8.wrap 12 :: (Zu 1 A ++ Zu 0 B ++ Zu 0 C))) := by
 have e : Zm 12 A B C N = some (.r1 ([(12 : Int), ((IntKind.u64.wrap A) % (256 : Int))] : List Int)) := by
  unfold Zm
  rw [hi]
  exact rfl
 rw [e]
 simp only [Zu, by1, by2, by3, by4, by5, by6, by7, by8, List.cons_append, List.nil_append, List.append_nil, show IntKind.u8.wrap (12 : Int) = 12 from (Za3 12).trans (by decide)]
theorem kd_12 {N : Nat} : ∃ nm s0 s1 s2 h0 h1 h2, Kd 12 N nm s0 s1 s2 h0 h1 h2 true 1 0 0 :=
 ⟨_, _, _, _, _, _, _, { k := rfl, e := (by decide +kernel), l0 := (by unfold Wd; omega), l1 := (by unfold Wd; omega), l2 := (by unfold Wd; omega), ws := (by omega), a0 := rfl, a1 := rfl, a2 := rfl, rg := (fun _ => by omega), chk := ZvN, h := rfl, c0 := fun _ => rfl, c1 := fun _ => rfl, c2 := fun _ => rfl, enc := re_12 }⟩
theorem ZvO {N : Nat} (hN : 4 ≤ N) (A B C : Int) : ∃ d, Z6 13 A B C N = some (.r0 (if d = true then 0 else 100)) ∧ (d = true → true = true ∧ Rng 1 A ∧ Rng 1 B ∧ Rng 1 C) := by
 obtain ⟨b0, p0, q0⟩ := ZdM A 0 N
 obtain ⟨b1, p1, q1⟩ := ZdM B A N
 obtain ⟨b2, p2, q2⟩ := fr_2 C B N
 exact ⟨b0 && b1 && b2, (ZaC (show Zam 13 A B C N = some (.inl (.h1m0 1 1 2)) from rfl)).trans (Zeq hN p0 (fun _ => p1) (fun _ _ => p2)), fun h => by
  simp only [Bool.and_eq_true] at h
  exact ⟨rfl, Zai (by have := q0 h.1.1; omega), Zai (by have := q1 h.1.2; omega), Zai (by have := q2 h.2; omega)⟩⟩
theorem re_13 {N : Nat} (A B C : Int) (hi : ZS 13 A B C N = some (.r0 true)) : Zm 13 A B C N = some (.r1 (IntKind.u8.wrap 13 :: (Zu 1 A ++ Zu 1 B ++ Zu 1 C))) := by
 have e : Zm 13 A B C N = some (.r1 ([(13 : Int), ((IntKind.u64.wrap A) % (256 : Int)), ((IntKind.u64.wrap B) % (256 : Int)), ((IntKind.u64.wrap C) % (256 : Int))] : List Int)) := by
  unfold Zm
  rw [hi]
  exact rfl
 rw [e]
 simp only [Zu, by1, by2, by3, by4, by5, by6, by7, by8, List.cons_append, List.nil_append, List.append_nil, show IntKind.u8.wrap (13 : Int) = 13 from (Za3 13).trans (by decide)]
theorem kd_13 {N : Nat} : ∃ nm s0 s1 s2 h0 h1 h2, Kd 13 N nm s0 s1 s2 h0 h1 h2 true 1 1 1 :=
 ⟨_, _, _, _, _, _, _, { k := rfl, e := (by decide +kernel), l0 := (by unfold Wd; omega), l1 := (by unfold Wd; omega), l2 := (by unfold Wd; omega), ws := (by omega), a0 := rfl, a1 := rfl, a2 := rfl, rg := (fun _ => by omega), chk := ZvO, h := rfl, c0 := fun _ => rfl, c1 := fun _ => rfl, c2 := fun _ => rfl, enc := re_13 }⟩
theorem ZvP {N : Nat} (hN : 4 ≤ N) (A B C : Int) : ∃ d, Z6 14 A B C N = some (.r0 (if d = true then 0 else 100)) ∧ (d = true → true = true ∧ Rng 1 A ∧ Rng 1 B ∧ Rng 1 C) := by
 obtain ⟨b0, p0, q0⟩ := ZdM A 0 N
 obtain ⟨b1, p1, q1⟩ := fr_2 B A N
 obtain ⟨b2, p2, q2⟩ := ZdM C B N
 exact ⟨b0 && b1 && b2, (ZaC (show Zam 14 A B C N = some (.inl (.h1m0 1 2 1)) from rfl)).trans (Zeq hN p0 (fun _ => p1) (fun _ _ => p2)), fun h => by
  simp only [Bool.and_eq_true] at h
  exact ⟨rfl, Zai (by have := q0 h.1.1; omega), Zai (by have := q1 h.1.2; omega), Zai (by have := q2 h.2; omega)⟩⟩
theorem re_14 {N : Nat} (A B C : Int) (hi : ZS 14 A B C N = some (.r0 true)) : Zm 14 A B C N = some (.r1 (IntKind.u8.wrap 14 :: (Zu 1 A ++ Zu 1 B ++ Zu 1 C))) := by
 have e : Zm 14 A B C N = some (.r1 ([(14 : Int), ((IntKind.u64.wrap A) % (256 : Int)), ((IntKind.u64.wrap B) % (256 : Int)), ((IntKind.u64.wrap C) % (256 : Int))] : List Int)) := by
  unfold Zm
  rw [hi]
  exact rfl
 rw [e]
 simp only [Zu, by1, by2, by3, by4, by5, by6, by7, by8, List.cons_append, List.nil_append, List.append_nil, show IntKind.u8.wrap (14 : Int) = 14 from (Za3 14).trans (by decide)]
theorem kd_14 {N : Nat} : ∃ nm s0 s1 s2 h0 h1 h2, Kd 14 N nm s0 s1 s2 h0 h1 h2 true 1 1 1 :=
 ⟨_, _, _, _, _, _, _, { k := rfl, e := (by decide +kernel), l0 := (by unfold Wd; omega), l1 := (by unfold Wd; omega), l2 := (by unfold Wd; omega), ws := (by omega), a0 := rfl, a1 := rfl, a2 := rfl, rg := (fun _ => by omega), chk := ZvP, h := rfl, c0 := fun _ => rfl, c1 := fun _ => rfl, c2 := fun _ => rfl, enc := re_14 }⟩
theorem ZvQ {N : Nat} (hN : 4 ≤ N) (A B C : Int) : ∃ d, Z6 15 A B C N = some (.r0 (if d = true then 0 else 100)) ∧ (d = true → true = true ∧ Rng 0 A ∧ Rng 0 B ∧ Rng 0 C) := by
 obtain ⟨b0, p0, q0⟩ := Zds A 0 N
 obtain ⟨b1, p1, q1⟩ := Zds B A N
 obtain ⟨b2, p2, q2⟩ := Zds C B N
 exact ⟨b0 && b1 && b2, (ZaC (show Zam 15 A B C N = some (.inl (.h1m0 0 0 0)) from rfl)).trans (Zeq hN p0 (fun _ => p1) (fun _ _ => p2)), fun h => by
  simp only [Bool.and_eq_true] at h
  exact ⟨rfl, Zai (by have := q0 h.1.1; omega), Zai (by have := q1 h.1.2; omega), Zai (by have := q2 h.2; omega)⟩⟩
theorem re_15 {N : Nat} (A B C : Int) (hi : ZS 15 A B C N = some (.r0 true)) : Zm 15 A B C N = some (.r1 (IntKind.u8.wrap 15 :: (Zu 0 A ++ Zu 0 B ++ Zu 0 C))) := by
 have e : Zm 15 A B C N = some (.r1 ([(15 : Int)] : List Int)) := by
  unfold Zm
  rw [hi]
  exact rfl
 rw [e]
 simp only [Zu, by1, by2, by3, by4, by5, by6, by7, by8, List.cons_append, List.nil_append, List.append_nil, show IntKind.u8.wrap (15 : Int) = 15 from (Za3 15).trans (by decide)]
theorem kd_15 {N : Nat} : ∃ nm s0 s1 s2 h0 h1 h2, Kd 15 N nm s0 s1 s2 h0 h1 h2 true 0 0 0 :=
 ⟨_, _, _, _, _, _, _, { k := rfl, e := (by decide +kernel), l0 := (by unfold Wd; omega), l1 := (by unfold Wd; omega), l2 := (by unfold Wd; omega), ws := (by omega), a0 := rfl, a1 := rfl, a2 := rfl, rg := (fun _ => by omega), chk := ZvQ, h := rfl, c0 := fun _ => rfl, c1 := fun _ => rfl, c2 := fun _ => rfl, enc := re_15 }⟩
theorem ZvR {N : Nat} (hN : 4 ≤ N) (A B C : Int) : ∃ d, Z6 16 A B C N = some (.r0 (if d = true then 0 else 100)) ∧ (d = true → true = true ∧ Rng 0 A ∧ Rng 0 B ∧ Rng 0 C) := by
 obtain ⟨b0, p0, q0⟩ := Zds A 0 N
 obtain ⟨b1, p1, q1⟩ := Zds B A N
 obtain ⟨b2, p2, q2⟩ := Zds C B N
 exact ⟨b0 && b1 && b2, (ZaC (show Zam 16 A B C N = some (.inl (.h1m0 0 0 0)) from rfl)).trans (Zeq hN p0 (fun _ => p1) (fun _ _ => p2)), fun h => by
  simp only [Bool.and_eq_true] at h
  exact ⟨rfl, Zai (by have := q0 h.1.1; omega), Zai (by have := q1 h.1.2; omega), Zai (by have := q2 h.2; omega)⟩⟩
theorem re_16 {N : Nat} (A B C : Int) (hi : ZS 16 A B C N = some (.r0 true)) : Zm 16 A B C N = some (.r1 (IntKind.u8.wrap 16 :: (Zu 0 A ++ Zu 0 B ++ Zu 0 C))) := by
 have e : Zm 16 A B C N = some (.r1 ([(16 : Int)] : List Int)) := by
  unfold Zm
  rw [hi]
  exact rfl
 rw [e]
 simp only [Zu, by1, by2, by3, by4, by5, by6, by7, by8, List.cons_append, List.nil_append, List.append_nil, show IntKind.u8.wrap (16 : Int) = 16 from (Za3 16).trans (by decide)]
theorem kd_16 {N : Nat} : ∃ nm s0 s1 s2 h0 h1 h2, Kd 16 N nm s0 s1 s2 h0 h1 h2 true 0 0 0 :=
 ⟨_, _, _, _, _, _, _, { k := rfl, e := (by decide +kernel), l0 := (by unfold Wd; omega), l1 := (by unfold Wd; omega), l2 := (by unfold Wd; omega), ws := (by omega), a0 := rfl, a1 := rfl, a2 := rfl, rg := (fun _ => by omega), chk := ZvR, h := rfl, c0 := fun _ => rfl, c1 := fun _ => rfl, c2 := fun _ => rfl, enc := re_16 }⟩
theorem ZvS {N : Nat} (hN : 4 ≤ N) (A B C : Int) : ∃ d, Z6 17 A B C N = some (.r0 (if d = true then 0 else 100)) ∧ (d = true → true = true ∧ Rng 0 A ∧ Rng 0 B ∧ Rng 0 C) := by
 obtain ⟨b0, p0, q0⟩ := Zds A 0 N
 obtain ⟨b1, p1, q1⟩ := Zds B A N
 obtain ⟨b2, p2, q2⟩ := Zds C B N
 exact ⟨b0 && b1 && b2, (ZaC (show Zam 17 A B C N = some (.inl (.h1m0 0 0 0)) from rfl)).trans (Zeq hN p0 (fun _ => p1) (fun _ _ => p2)), fun h => by
  simp only [Bool.and_eq_true] at h
  exact ⟨rfl, Zai (by have := q0 h.1.1; omega), Zai (by have := q1 h.1.2; omega), Zai (by have := q2 h.2; omega)⟩⟩
theorem re_17 {N : Nat} (A B C : Int) (hi : ZS 17 A B C N = some (.r0 true)) : Zm 17 A B C N = some (.r1 (IntKind.u8.wrap 17 :: (Zu 0 A ++ Zu 0 B ++ Zu 0 C))) := by
 have e : Zm 17 A B C N = some (.r1 ([(17 : Int)] : List Int)) := by
  unfold Zm
  rw [hi]
  exact rfl
 rw [e]
 simp only [Zu, by1, by2, by3, by4, by5, by6, by7, by8, List.cons_append, List.nil_append, List.append_nil, show IntKind.u8.wrap (17 : Int) = 17 from (Za3 17).trans (by decide)]
theorem kd_17 {N : Nat} : ∃ nm s0 s1 s2 h0 h1 h2, Kd 17 N nm s0 s1 s2 h0 h1 h2 true 0 0 0 :=
 ⟨_, _, _, _, _, _, _, { k := rfl, e := (by decide +kernel), l0 := (by unfold Wd; omega), l1 := (by unfold Wd; omega), l2 := (by unfold Wd; omega), ws := (by omega), a0 := rfl, a1 := rfl, a2 := rfl, rg := (fun _ => by omega), chk := ZvS, h := rfl, c0 := fun _ => rfl, c1 := fun _ => rfl, c2 := fun _ => rfl, enc := re_17 }⟩
theorem ZvT {N : Nat} (hN : 4 ≤ N) (A B C : Int) : ∃ d, Z6 18 A B C N = some (.r0 (if d = true then 0 else 100)) ∧ (d = true → true = true ∧ Rng 0 A ∧ Rng 0 B ∧ Rng 0 C) := by
 obtain ⟨b0, p0, q0⟩ := Zds A 0 N
 obtain ⟨b1, p1, q1⟩ := Zds B A N
 obtain ⟨b2, p2, q2⟩ := Zds C B N
 exact ⟨b0 && b1 && b2, (ZaC (show Zam 18 A B C N = some (.inl (.h1m0 0 0 0)) from rfl)).trans (Zeq hN p0 (fun _ => p1) (fun _ _ => p2)), fun h => by
  simp only [Bool.and_eq_true] at h
  exact ⟨rfl, Zai (by have := q0 h.1.1; omega), Zai (by have := q1 h.1.2; omega), Zai (by have := q2 h.2; omega)⟩⟩
theorem re_18 {N : Nat} (A B C : Int) (hi : ZS 18 A B C N = some (.r0 true)) : Zm 18 A B C N = some (.r1 (IntKind.u8.wrap 18 :: (Zu 0 A ++ Zu 0 B ++ Zu 0 C))) := by
 have e : Zm 18 A B C N = some (.r1 ([(18 : Int)] : List Int)) := by
  unfold Zm
  rw [hi]
  exact rfl
 rw [e]
 simp only [Zu, by1, by2, by3, by4, by5, by6, by7, by8, List.cons_append, List.nil_append, List.append_nil, show IntKind.u8.wrap (18 : Int) = 18 from (Za3 18).trans (by decide)]
theorem kd_18 {N : Nat} : ∃ nm s0 s1 s2 h0 h1 h2, Kd 18 N nm s0 s1 s2 h0 h1 h2 true 0 0 0 :=
 ⟨_, _, _, _, _, _, _, { k := rfl, e := (by decide +kernel), l0 := (by unfold Wd; omega), l1 := (by unfold Wd; omega), l2 := (by unfold Wd; omega), ws := (by omega), a0 := rfl, a1 := rfl, a2 := rfl, rg := (fun _ => by omega), chk := ZvT, h := rfl, c0 := fun _ => rfl, c1 := fun _ => rfl, c2 := fun _ => rfl, enc := re_18 }⟩
theorem ZvU {N : Nat} (hN : 4 ≤ N) (A B C : Int) : ∃ d, Z6 19 A B C N = some (.r0 (if d = true then 0 else 100)) ∧ (d = true → true = true ∧ Rng 1 A ∧ Rng 0 B ∧ Rng 0 C) := by
 obtain ⟨b0, p0, q0⟩ := ZdM A 0 N
 obtain ⟨b1, p1, q1⟩ := Zds B A N
 obtain ⟨b2, p2, q2⟩ := Zds C B N
 exact ⟨b0 && b1 && b2, (ZaC (show Zam 19 A B C N = some (.inl (.h1m0 1 0 0)) from rfl)).trans (Zeq hN p0 (fun _ => p1) (fun _ _ => p2)), fun h => by
  simp only [Bool.and_eq_true] at h
  exact ⟨rfl, Zai (by have := q0 h.1.1; omega), Zai (by have := q1 h.1.2; omega), Zai (by have := q2 h.2; omega)⟩⟩
theorem re_19 {N : Nat} (A B C : Int) (hi : ZS 19 A B C N = some (.r0 true)) : Zm 19 A B C N = some (.r1 (IntKind.u8.wrap 19 :: (Zu 1 A ++ Zu 0 B ++ Zu 0 C))) := by
 have e : Zm 19 A B C N = some (.r1 ([(19 : Int), ((IntKind.u64.wrap A) % (256 : Int))] : List Int)) := by
  unfold Zm
  rw [hi]
  exact rfl
 rw [e]
 simp only [Zu, by1, by2, by3, by4, by5, by6, by7, by8, List.cons_append, List.nil_append, List.append_nil, show IntKind.u8.wrap (19 : Int) = 19 from (Za3 19).trans (by decide)]
theorem kd_19 {N : Nat} : ∃ nm s0 s1 s2 h0 h1 h2, Kd 19 N nm s0 s1 s2 h0 h1 h2 true 1 0 0 :=
 ⟨_, _, _, _, _, _, _, { k := rfl, e := (by decide +kernel), l0 := (by unfold Wd; omega), l1 := (by unfold Wd; omega), l2 := (by unfold Wd; omega), ws := (by omega), a0 := rfl, a1 := rfl, a2 := rfl, rg := (fun _ => by omega), chk := ZvU, h := rfl, c0 := fun _ => rfl, c1 := fun _ => rfl, c2 := fun _ => rfl, enc := re_19 }⟩
theorem ZvV {N : Nat} (hN : 4 ≤ N) (A B C : Int) : ∃ d, Z6 20 A B C N = some (.r0 (if d = true then 0 else 100)) ∧ (d = true → true = true ∧ Rng 0 A ∧ Rng 0 B ∧ Rng 0 C) := by
 obtain ⟨b0, p0, q0⟩ := Zds A 0 N
 obtain ⟨b1, p1, q1⟩ := Zds B A N
 obtain ⟨b2, p2, q2⟩ := Zds C B N
 exact ⟨b0 && b1 && b2, (ZaC (show Zam 20 A B C N = some (.inl (.h1m0 0 0 0)) from rfl)).trans (Zeq hN p0 (fun _ => p1) (fun _ _ => p2)), fun h => by
  simp only [Bool.and_eq_true] at h
  exact ⟨rfl, Zai (by have := q0 h.1.1; omega), Zai (by have := q1 h.1.2; omega), Zai (by have := q2 h.2; omega)⟩⟩
theorem re_20 {N : Nat} (A B C : Int) (hi : ZS 20 A B C N = some (.r0 true)) : Zm 20 A B C N = some (.r1 (IntKind.u8.wrap 20 :: (Zu 0 A ++ Zu 0 B ++ Zu 0 C))) := by
 have e : Zm 20 A B C N = some (.r1 ([(20 : Int)] : List Int)) := by
  unfold Zm
  rw [hi]
  exact rfl
 rw [e]
 simp only [Zu, by1, by2, by3, by4, by5, by6, by7, by8, List.cons_append, List.nil_append, List.append_nil, show IntKind.u8.wrap (20 : Int) = 20 from (Za3 20).trans (by decide)]
theorem kd_20 {N : Nat} : ∃ nm s0 s1 s2 h0 h1 h2, Kd 20 N nm s0 s1 s2 h0 h1 h2 true 0 0 0 :=
 ⟨_, _, _, _, _, _, _, { k := rfl, e := (by decide +kernel), l0 := (by unfold Wd; omega), l1 := (by unfold Wd; omega), l2 := (by unfold Wd; omega), ws := (by omega), a0 := rfl, a1 := rfl, a2 := rfl, rg := (fun _ => by omega), chk := ZvV, h := rfl, c0 := fun _ => rfl, c1 := fun _ => rfl, c2 := fun _ => rfl, enc := re_20 }⟩
theorem kd (op : Int) (N : Nat) : ∃ nm s0 s1 s2 h0 h1 h2 b w0 w1 w2, Kd op N nm s0 s1 s2 h0 h1 h2 b w0 w1 w2 := by
 by_cases h1 : op < 0 ∨ 21 ≤ op ∨ op = 0
 ·exact ⟨_, _, _, _, _, _, _, _, _, _, _, kd_no h1⟩
 ·have h : op = 1 ∨ op = 2 ∨ op = 3 ∨ op = 4 ∨ op = 5 ∨ op = 6 ∨ op = 7 ∨ op = 8 ∨ op = 9 ∨ op = 10 ∨ op = 11 ∨ op = 12 ∨ op = 13 ∨ op = 14 ∨ op = 15 ∨ op = 16 ∨ op = 17 ∨ op = 18 ∨ op = 19 ∨ op = 20 := by omega
  rcases h with rfl | rfl | rfl | rfl | rfl | rfl | rfl | rfl | rfl | rfl | rfl | rfl | rfl | rfl | rfl | rfl | rfl | rfl | rfl | rfl
  ·obtain ⟨_, _, _, _, _, _, _, h⟩ := kd_1 (N := N); exact ⟨_, _, _, _, _, _, _, _, _, _, _, h⟩
  ·obtain ⟨_, _, _, _, _, _, _, h⟩ := kd_2 (N := N); exact ⟨_, _, _, _, _, _, _, _, _, _, _, h⟩
  ·obtain ⟨_, _, _, _, _, _, _, h⟩ := kd_3 (N := N); exact ⟨_, _, _, _, _, _, _, _, _, _, _, h⟩
  ·obtain ⟨_, _, _, _, _, _, _, h⟩ := kd_4 (N := N); exact ⟨_, _, _, _, _, _, _, _, _, _, _, h⟩
  ·obtain ⟨_, _, _, _, _, _, _, h⟩ := kd_5 (N := N); exact ⟨_, _, _, _, _, _, _, _, _, _, _, h⟩
  ·obtain ⟨_, _, _, _, _, _, _, h⟩ := kd_6 (N := N); exact ⟨_, _, _, _, _, _, _, _, _, _, _, h⟩
  ·obtain ⟨_, _, _, _, _, _, _, h⟩ := kd_7 (N := N); exact ⟨_, _, _, _, _, _, _, _, _, _, _, h⟩
  ·obtain ⟨_, _, _, _, _, _, _, h⟩ := kd_8 (N := N); exact ⟨_, _, _, _, _, _, _, _, _, _, _, h⟩
  ·obtain ⟨_, _, _, _, _, _, _, h⟩ := kd_9 (N := N); exact ⟨_, _, _, _, _, _, _, _, _, _, _, h⟩
  ·obtain ⟨_, _, _, _, _, _, _, h⟩ := kd_10 (N := N); exact ⟨_, _, _, _, _, _, _, _, _, _, _, h⟩
  ·obtain ⟨_, _, _, _, _, _, _, h⟩ := kd_11 (N := N); exact ⟨_, _, _, _, _, _, _, _, _, _, _, h⟩
  ·obtain ⟨_, _, _, _, _, _, _, h⟩ := kd_12 (N := N); exact ⟨_, _, _, _, _, _, _, _, _, _, _, h⟩
  ·obtain ⟨_, _, _, _, _, _, _, h⟩ := kd_13 (N := N); exact ⟨_, _, _, _, _, _, _, _, _, _, _, h⟩
  ·obtain ⟨_, _, _, _, _, _, _, h⟩ := kd_14 (N := N); exact ⟨_, _, _, _, _, _, _, _, _, _, _, h⟩
  ·obtain ⟨_, _, _, _, _, _, _, h⟩ := kd_15 (N := N); exact ⟨_, _, _, _, _, _, _, _, _, _, _, h⟩
  ·obtain ⟨_, _, _, _, _, _, _, h⟩ := kd_16 (N := N); exact ⟨_, _, _, _, _, _, _, _, _, _, _, h⟩
  ·obtain ⟨_, _, _, _, _, _, _, h⟩ := kd_17 (N := N); exact ⟨_, _, _, _, _, _, _, _, _, _, _, h⟩
  ·obtain ⟨_, _, _, _, _, _, _, h⟩ := kd_18 (N := N); exact ⟨_, _, _, _, _, _, _, _, _, _, _, h⟩
  ·obtain ⟨_, _, _, _, _, _, _, h⟩ := kd_19 (N := N); exact ⟨_, _, _, _, _, _, _, _, _, _, _, h⟩
  ·obtain ⟨_, _, _, _, _, _, _, h⟩ := kd_20 (N := N); exact ⟨_, _, _, _, _, _, _, _, _, _, _, h⟩
section
variable {op A B C s0 s1 s2 : Int} {N : Nat}
theorem lp0 (k : Nat) : ∀ (b : List Int) (v : Int) (g : Nat), v = 8 * (k : Int) - 8 → k ≤ 8 → b.length + k ≤ 1000 → ZaP (Zaz op A B C N) (g + k + 1) (.h2m0 b v s0 s1 s2) = ZaP (Zaz op A B C N) g (.h1m1 (b ++ Zu k A) s0 s1 s2) := by
 induction k with
 | zero =>
  intro b v g hv hk hb
  refine (Zy (y := .h1m1 b s0 s1 s2) ?_).trans ?_
  ·show Zcs op A B C N b v s0 s1 s2 = _
   unfold Zcs
   exact Zw (by omega) rfl
  ·rw [show b ++ Zu 0 A = b from List.append_nil b]
 | succ k ih =>
  intro b v g hv hk hb
  refine (Zy (y := .h2m0 (b ++ [IntKind.u8.wrap (IntKind.u64.wrap A / (2 ^ (8 * k) : Int))]) (v - 8) s0 s1 s2) ?_).trans ?_
  ·show Zcs op A B C N b v s0 s1 s2 = _
   unfold Zcs
   refine Zd (by omega) (Zd (by omega) (Zd (by omega) ?_))
   rw [show v.toNat = 8 * k by omega]
  ·show ZaP _ (g + k + 1) _ = _
   rw [ih _ _ _ (by omega) (by omega) (by simp only [List.length_append, List.length_cons, List.length_nil]; omega)]
   simp only [Zu, List.append_assoc, List.cons_append, List.nil_append]
theorem lp1 (k : Nat) : ∀ (b : List Int) (v : Int) (g : Nat), v = 8 * (k : Int) - 8 → k ≤ 8 → b.length + k ≤ 1000 → ZaP (Zaz op A B C N) (g + k + 1) (.h2m1 b v s0 s1 s2) = ZaP (Zaz op A B C N) g (.h1m2 (b ++ Zu k B) s0 s1 s2) := by
 induction k with
 | zero =>
  intro b v g hv hk hb
  refine (Zy (y := .h1m2 b s0 s1 s2) ?_).trans ?_
  ·show Zct op A B C N b v s0 s1 s2 = _
   unfold Zct
   exact Zw (by omega) rfl
  ·rw [show b ++ Zu 0 B = b from List.append_nil b]
 | succ k ih =>
  intro b v g hv hk hb
  refine (Zy (y := .h2m1 (b ++ [IntKind.u8.wrap (IntKind.u64.wrap B / (2 ^ (8 * k) : Int))]) (v - 8) s0 s1 s2) ?_).trans ?_
  ·show Zct op A B C N b v s0 s1 s2 = _
   unfold Zct
   refine Zd (by omega) (Zd (by omega) (Zd (by omega) ?_))
   rw [show v.toNat = 8 * k by omega]
  ·show ZaP _ (g + k + 1) _ = _
   rw [ih _ _ _ (by omega) (by omega) (by simp only [List.length_append, List.length_cons, List.length_nil]; omega)]
   simp only [Zu, List.append_assoc, List.cons_append, List.nil_append]
theorem lp2 (k : Nat) : ∀ (b : List Int) (v : Int) (g : Nat), v = 8 * (k : Int) - 8 → k ≤ 8 → b.length + k ≤ 1000 → ZaP (Zaz op A B C N) (g + k + 1) (.h2m2 b v s0 s1 s2) = ZaP (Zaz op A B C N) g (.h1m3 (b ++ Zu k C) s0 s1 s2) := by
 induction k with
 | zero =>
  intro b v g hv hk hb
  refine (Zy (y := .h1m3 b s0 s1 s2) ?_).trans ?_
  ·show Zcu op A B C N b v s0 s1 s2 = _
   unfold Zcu
   exact Zw (by omega) rfl
  ·rw [show b ++ Zu 0 C = b from List.append_nil b]
 | succ k ih =>
  intro b v g hv hk hb
  refine (Zy (y := .h2m2 (b ++ [IntKind.u8.wrap (IntKind.u64.wrap C / (2 ^ (8 * k) : Int))]) (v - 8) s0 s1 s2) ?_).trans ?_
  ·show Zcu op A B C N b v s0 s1 s2 = _
   unfold Zcu
   refine Zd (by omega) (Zd (by omega) (Zd (by omega) ?_))
   rw [show v.toNat = 8 * k by omega]
  ·show ZaP _ (g + k + 1) _ = _
   rw [ih _ _ _ (by omega) (by omega) (by simp only [List.length_append, List.length_cons, List.length_nil]; omega)]
   simp only [Zu, List.append_assoc, List.cons_append, List.nil_append]
theorem Zv7 {w0 w1 w2 : Nat} (hN : 100 ≤ N) (l0 : w0 ≤ 8) (l1 : w1 ≤ 8) (l2 : w2 ≤ 8) (a0 : Zv s0 N = some (.r0 (w0 : Int))) (a1 : Zv s1 N = some (.r0 (w1 : Int))) (a2 : Zv s2 N = some (.r0 (w2 : Int))) :
  ZaP (Zaz op A B C N) N (.h1m0 s0 s1 s2) = some (.r1 (IntKind.u8.wrap op :: (Zu w0 A ++ Zu w1 B ++ Zu w2 C))) := by
 have wv : ∀ w : Nat, w ≤ 8 → IntKind.i64.wrap ((8 : Int) * (IntKind.i64.wrap ((w : Int) - (1 : Int)))) = 8 * (w : Int) - 8 := fun w hw => by
  rw [w64 (x := (w : Int) - 1) (by omega) (by omega), w64 (by omega) (by omega)]; omega
 refine Zbv (n := ((((((0 + 1) + w2 + 1) + 1) + w1 + 1) + 1) + w0 + 1) + 1) (by omega) ?_
 refine (Zy (y := .h2m0 [IntKind.u8.wrap op] (8 * (w0 : Int) - 8) s0 s1 s2) ?_).trans ((lp0 w0 _ _ _ rfl l0 (by simp; omega)).trans ((Zy (y := .h2m1 ([IntKind.u8.wrap op] ++ Zu w0 A) (8 * (w1 : Int) - 8) s0 s1 s2) ?_).trans ((lp1 w1 _ _ _ rfl l1 (by simp [Zd6]; omega)).trans ((Zy (y := .h2m2 ([IntKind.u8.wrap op] ++ Zu w0 A ++ Zu w1 B) (8 * (w2 : Int) - 8) s0 s1 s2) ?_).trans ((lp2 w2 _ _ _ rfl l2 (by simp [Zd6]; omega)).trans (ZO ?_))))))
 ·show ZdO op A B C N s0 s1 s2 = _
  unfold ZdO
  refine Zp a0 ?_
  show some (Sum.inl (instr_EncodeX.h2m0 _ _ _ _ _)) = _
  rw [wv w0 l0]
 ·show ZdP op A B C N _ s0 s1 s2 = _
  unfold ZdP
  refine Zp a1 ?_
  show some (Sum.inl (instr_EncodeX.h2m1 _ _ _ _ _)) = _
  rw [wv w1 l1]
 ·show ZdQ op A B C N _ s0 s1 s2 = _
  unfold ZdQ
  refine Zp a2 ?_
  show some (Sum.inl (instr_EncodeX.h2m2 _ _ _ _ _)) = _
  rw [wv w2 l2]
 ·show some (Sum.inr (instr_EncodeR.r1 _)) = _
  simp only [List.cons_append, List.nil_append, List.append_assoc]
end
def Zft (op A B C : Int) (w0 w1 w2 : Nat) : List Int := IntKind.u8.wrap op :: (Zu w0 A ++ Zu w1 B ++ Zu w2 C)
section
variable {op A B C s0 s1 s2 t0 t1 t2 : Int} {N w0 w1 w2 : Nat} {nm : List Int}
theorem ZpP {b : Bool} (K : Kd op N nm s0 s1 s2 t0 t1 t2 b w0 w1 w2) (hN : 2000 ≤ N) (h : Z6 op A B C N = some (.r0 0)) : Zc8 op A B C N = some (.r1 (Zft op A B C w0 w1 w2)) :=
 (ZaC (show ZfQ op A B C N = some (.inl (.h1m0 s0 s1 s2)) from Zp h <| Zw (by decide) <| Zp K.k rfl)).trans (Zv7 (by omega) K.l0.le K.l1.le K.l2.le K.a0 K.a1 K.a2)
end
theorem ZvW {op A B C : Int} {N : Nat} (h : Z6 op A B C N = some (.r0 100)) : Zc8 op A B C N = some (.r0 100) := ZdH (Zp h <| Zd (by decide) rfl)
theorem Zhy (op A B C : Int) (w0 w1 w2 : Nat) : (Zft op A B C w0 w1 w2).length = 1 + w0 + w1 + w2 := by
 unfold Zft; simp only [List.length_cons, List.length_append, Zd6]; omega
theorem ZuN (op A B C : Int) (w0 w1 w2 : Nat) : ∀ x ∈ Zft op A B C w0 w1 w2, 0 ≤ x ∧ x ≤ 255 := by
 have hb : ∀ k u, ∀ x ∈ Zu k u, 0 ≤ x ∧ x ≤ 255 := fun k u => by
  induction k with
  | zero => intro x hx; cases hx
  | succ k ih =>
   intro x hx
   rw [Zu, List.mem_cons] at hx
   rcases hx with rfl | hx
   ·rw [Za3]; omega
   ·exact ih x hx
 intro x hx
 unfold Zft at hx
 simp only [List.mem_cons, List.mem_append] at hx
 rcases hx with rfl | (hx | hx) | hx
 ·rw [Za3]; omega
 ·exact hb _ _ x hx
 ·exact hb _ _ x hx
 ·exact hb _ _ x hx
theorem Zqs (M : List Int) (x : Int) : gV (M ++ [x]) = 256 * gV M + x := by unfold gV; rw [List.foldl_append]; rfl
theorem Zd7 (L : List Int) (a j : Nat) : (L.drop a).getD j 0 = L.getD (j + a) 0 := by simp [List.getD, List.getElem?_drop, Nat.add_comm]
theorem Zfu {L : List Int} (hb : ∀ x ∈ L, 0 ≤ x ∧ x ≤ 255) (i : Nat) (h : i < L.length) : 0 ≤ L.getD i 0 ∧ L.getD i 0 ≤ 255 := by
 have : L.getD i 0 = L[i] := by simp [List.getD, h]
 rw [this]; exact hb _ (List.getElem_mem h)
def Zfa (i : R_iiii) (N : Nat) : Option (List Int) := match Zc8 i.a0 i.a1 i.a2 i.a3 N with
 | some (.r1 y) => some y
 | _ => none
theorem Zqt {i : R_iiii} {N : Nat} {y : List Int} (h : Zc8 i.a0 i.a1 i.a2 i.a3 N = some (.r1 y)) : Zfa i N = some y := by unfold Zfa; rw [h]
theorem Zgz (i : R_iiii) {N : Nat} (hN : 2000 ≤ N) : (Zfa i N = none ∧ Zc8 i.a0 i.a1 i.a2 i.a3 N = some (.r0 100) ∧ Zm i.a0 i.a1 i.a2 i.a3 N = some .r0) ∨
  ∃ nm s0 s1 s2 t0 t1 t2 w0 w1 w2, Kd i.a0 N nm s0 s1 s2 t0 t1 t2 true w0 w1 w2 ∧ Z6 i.a0 i.a1 i.a2 i.a3 N = some (.r0 0) ∧ Zfa i N = some (Zft i.a0 i.a1 i.a2 i.a3 w0 w1 w2) ∧ Zc8 i.a0 i.a1 i.a2 i.a3 N = some (.r1 (Zft i.a0 i.a1 i.a2 i.a3 w0 w1 w2)) ∧ Zm i.a0 i.a1 i.a2 i.a3 N = some (.r1 (Zft i.a0 i.a1 i.a2 i.a3 w0 w1 w2)) := by
 obtain ⟨op, A, B, C⟩ := i
 show (_ ∧ _) ∨ _
 obtain ⟨nm, s0, s1, s2, t0, t1, t2, b, w0, w1, w2, K⟩ := kd op N
 obtain ⟨d, hz, hr⟩ := K.chk (by omega) A B C
 obtain ⟨d', hz', hi, _⟩ := ZoV op A B C N (by omega)
 have hd : d' = d := by
  rw [hz] at hz'
  cases d <;> cases d' <;> simp at hz' ⊢
 subst hd
 cases d' with
 | false =>
  have h1 := ZvW hz
  refine .inl ⟨by unfold Zfa; rw [h1], h1, ?_⟩
  show Zm op A B C N = _
  unfold Zm
  exact Zp hi <| Zd (by decide) rfl
 | true =>
  obtain ⟨rfl, _⟩ := hr rfl
  have h1 := ZpP K hN hz
  exact .inr ⟨_, _, _, _, _, _, _, _, _, _, K, hz, by unfold Zfa; rw [h1], h1, K.enc A B C hi⟩
theorem Zlx {i : R_iiii} {N : Nat} {y : List Int} (hN : 2000 ≤ N) (h : Zfa i N = some y) : 1 ≤ y.length ∧ y.length ≤ 10 ∧ ∀ x ∈ y, 0 ≤ x ∧ x ≤ 255 := by
 rcases Zgz i hN with ⟨e, _⟩ | ⟨_, _, _, _, _, _, _, w0, w1, w2, K, _, e, _⟩
 ·rw [e] at h; cases h
 ·rw [e] at h
  obtain rfl := Option.some.inj h
  have := K.ws
  rw [Zhy]
  exact ⟨by omega, by omega, ZuN _ _ _ _ _ _ _⟩
theorem Zc7 (L : List Int) (o n a k : Nat) (h : a + k ≤ n) : (((L.drop o).take n).drop a).take k = (L.drop (a + o)).take k := by
 rw [List.drop_take, List.take_take, Nat.min_eq_left (by omega), List.drop_drop, Nat.add_comm o a]
theorem Zhz (L : List Int) (o n a : Nat) : ((L.drop o).take n).drop a = (L.drop (a + o)).take (n - a) := by
 rw [List.drop_take, List.drop_drop, Nat.add_comm o a]
theorem Zek {L : List Int} (hb : ∀ i, i < L.length → 0 ≤ L.getD i 0 ∧ L.getD i 0 ≤ 255) (o n : Nat) : ∀ x ∈ (L.drop o).take n, 0 ≤ x ∧ x ≤ 255 := fun x hx => by
 obtain ⟨i, hi, rfl⟩ := List.getElem_of_mem (List.mem_of_mem_drop (List.mem_of_mem_take hx))
 have := hb i hi
 simpa [List.getD, hi] using this
theorem Zh6 {op : Int} {M : List Int} {w0 w1 w2 : Nat} (h0 : Wd w0) (h1 : Wd w1) (h2 : Wd w2) (hb : ∀ x ∈ M, 0 ≤ x ∧ x ≤ 255) (hl : 1 + w0 + w1 + w2 ≤ M.length) :
  Zft (M.getD 0 0) (IntKind.i64.wrap (gV ((M.drop 1).take w0))) (IntKind.i64.wrap (gV ((M.drop (1 + w0)).take w1))) (IntKind.i64.wrap (gV ((M.drop (1 + w0 + w1)).take w2))) w0 w1 w2 ++ M.drop (1 + w0 + w1 + w2) = M := by
 have hB : ∀ a k, ∀ x ∈ (M.drop a).take k, 0 ≤ x ∧ x ≤ 255 := fun a k x hx => hb x (List.mem_of_mem_drop (List.mem_of_mem_take hx))
 have hk : ∀ a k, a + k ≤ M.length → ((M.drop a).take k).length = k := fun a k h => by rw [List.length_take, List.length_drop]; omega
 have hop : [M.getD 0 0] = M.take 1 := Zc5 (L := M) (i := 0) (by omega) 0
 obtain ⟨r1, r2⟩ := Zfu hb 0 (by omega)
 unfold Zft
 rw [vb h0 (hk _ _ (by omega)) (hB _ _), vb h1 (hk _ _ (by omega)) (hB _ _), vb h2 (hk _ _ (by omega)) (hB _ _), Za3, show M.getD 0 0 % 256 = M.getD 0 0 by omega]
 have e : M.take 1 ++ ((M.drop 1).take w0 ++ ((M.drop (1 + w0)).take w1 ++ (M.drop (1 + w0 + w1)).take w2)) = M.take (1 + w0 + w1 + w2) := by
  rw [List.take_add, List.take_add, List.take_add]; simp only [List.append_assoc]
 have e2 := List.take_append_drop (1 + w0 + w1 + w2) M
 rw [← e, ← hop] at e2
 simpa only [List.cons_append, List.nil_append, List.append_assoc] using e2
theorem Zqu {op A B C : Int} {R : List Int} {w0 w1 w2 : Nat} (h0 : Wd w0) (h1 : Wd w1) (h2 : Wd w2) (rA : Rng w0 A) (rB : Rng w1 B) (rC : Rng w2 C) (ho : 1 ≤ op ∧ op ≤ 20) :
  let M := Zft op A B C w0 w1 w2 ++ R
  M.getD 0 0 = op ∧ IntKind.i64.wrap (gV ((M.drop 1).take w0)) = A ∧ IntKind.i64.wrap (gV ((M.drop (1 + w0)).take w1)) = B ∧ IntKind.i64.wrap (gV ((M.drop (1 + w0 + w1)).take w2)) = C ∧ M.drop (1 + w0 + w1 + w2) = R := by
 intro M
 have d1 : M.drop 1 = Zu w0 A ++ (Zu w1 B ++ (Zu w2 C ++ R)) := by
  show (Zft op A B C w0 w1 w2 ++ R).drop 1 = _
  unfold Zft; simp only [List.cons_append, List.append_assoc, List.drop_succ_cons, List.drop_zero]
 have d2 : M.drop (1 + w0) = Zu w1 B ++ (Zu w2 C ++ R) := by
  rw [← List.drop_drop, d1]; exact List.drop_left' (Zd6 _ _)
 have d3 : M.drop (1 + w0 + w1) = Zu w2 C ++ R := by
  rw [← List.drop_drop, d2]; exact List.drop_left' (Zd6 _ _)
 have d4 : M.drop (1 + w0 + w1 + w2) = R := by
  rw [← List.drop_drop, d3]; exact List.drop_left' (Zd6 _ _)
 refine ⟨?_, ?_, ?_, ?_, d4⟩
 ·show IntKind.u8.wrap op = op
  rw [Za3]; omega
 ·rw [d1, List.take_left' (Zd6 _ _), bv h0 rA]
 ·rw [d2, List.take_left' (Zd6 _ _), bv h1 rB]
 ·rw [d3, List.take_left' (Zd6 _ _), bv h2 rC]
theorem Zfb {L : List Int} {o w c N : Nat} (hb : ∀ i, i < L.length → 0 ≤ L.getD i 0 ∧ L.getD i 0 ≤ 255) (hn : o + w ≤ L.length) (hw : w ≤ 8) (hN : 100 ≤ N) : Zd2 L o w c N = some (.r0 (IntKind.i64.wrap (gV ((L.drop o).take w)))) := by
 unfold Zd2
 have loop : ∀ d j f v, j + d = w → d < f → v = gV ((L.drop o).take j) → 0 ≤ v → v < ((256 ^ j : Nat) : Int) → ZaP (ZeP L o w c N) f (.h1m0 v j) = some (.r0 (IntKind.i64.wrap (gV ((L.drop o).take w)))) := by
  intro d
  induction d with
  | zero =>
   intro j f v hj hf hv h0 h1
   obtain ⟨f, rfl⟩ : ∃ g, f = g + 1 := ⟨f - 1, by omega⟩
   refine ZO ?_
   show Zdb L o w c N v j = _
   unfold Zdb
   refine Zw (by omega) ?_
   obtain rfl : j = w := by omega
   rw [hv]
  | succ d ih =>
   intro j f v hj hf hv h0 h1
   obtain ⟨f, rfl⟩ : ∃ g, f = g + 1 := ⟨f - 1, by omega⟩
   obtain ⟨b0, b1⟩ := hb (j + o) (by omega)
   obtain ⟨e1, e2, e3⟩ := ZsT h0 h1 (by omega) b0 b1
   refine (Zy (y := .h1m0 (256 * v + L.getD (j + o) 0) (j + 1)) ?_).trans (ih (j + 1) f _ (by omega) (by omega) ?_ e2 e3)
   ·show Zdb L o w c N v j = _
    unfold Zdb
    rw [ZsS b0 b1, e1]
    exact Zd (by omega) (Zd (by omega) (Zd b0 (Zd (by omega) (Zd (by omega) rfl))))
   ·rw [hv, ← Zqs, ← Zd7, Zc5 (by rw [List.length_drop]; omega)]
 exact loop w 0 N 0 (by omega) (by omega) rfl (by decide) (by decide)
section
variable {L : List Int} {n c N w0 w1 w2 : Nat} {s0 s1 s2 t0 t1 t2 : Int} {nm : List Int}
theorem ZjL {o : Nat} {z : Int} (hw : Zv s0 N = some (.r0 (w0 : Int))) (h : w0 ≤ n - 1) (hc : n ≤ c) (hj : Zd2 L (o + 1) w0 (c - 1) N = some (.r0 z)) :
  ZaL L o n c N (.h1m0 s0 s1 s2) = some (.inl (.h1m1 (w0 + (o + 1)) (n - 1 - w0) (c - 1 - w0) s0 s1 s2 z)) := by
 show Zcw L o n c N s0 s1 s2 = _
 unfold Zcw
 exact Zp hw <| Zw (by omega) <| Zp hw <| Zd (by omega) <| Zd (by omega) <| Zp hj <| Zp hw <| Zd (by omega) <| Zd (by omega) <| Zd (by omega) rfl
theorem ZoW {o : Nat} (hw : Zv s0 N = some (.r0 (w0 : Int))) (h : n - 1 < w0) : ZaL L o n c N (.h1m0 s0 s1 s2) = some (.inr (.r0 6)) := by
 show Zcw L o n c N s0 s1 s2 = _
 unfold Zcw
 exact Zp hw <| Zd (by omega) rfl
theorem ZjM {o : Nat} {v4 v5 v6 : Nat} {x z : Int} (hw : Zv s1 N = some (.r0 (w1 : Int))) (h : w1 ≤ v5) (hc : v5 ≤ v6) (hj : Zd2 L v4 w1 v6 N = some (.r0 z)) :
  ZaL L o n c N (.h1m1 v4 v5 v6 s0 s1 s2 x) = some (.inl (.h1m2 (w1 + v4) (v5 - w1) (v6 - w1) s0 s1 s2 x z)) := by
 show Zcx L o n c N v4 v5 v6 s0 s1 s2 x = _
 unfold Zcx
 exact Zp hw <| Zw (by omega) <| Zp hw <| Zd (by omega) <| Zd (by omega) <| Zp hj <| Zp hw <| Zd (by omega) <| Zd (by omega) <| Zd (by omega) rfl
theorem ZoX {o : Nat} {v4 v5 v6 : Nat} {x : Int} (hw : Zv s1 N = some (.r0 (w1 : Int))) (h : v5 < w1) : ZaL L o n c N (.h1m1 v4 v5 v6 s0 s1 s2 x) = some (.inr (.r0 6)) := by
 show Zcx L o n c N v4 v5 v6 s0 s1 s2 x = _
 unfold Zcx
 exact Zp hw <| Zd (by omega) rfl
theorem ZpQ {o : Nat} {v4 v5 v6 : Nat} {x y z : Int} (hw : Zv s2 N = some (.r0 (w2 : Int))) (h : w2 ≤ v5) (hc : v5 ≤ v6) (hj : Zd2 L v4 w2 v6 N = some (.r0 z)) :
  ZaL L o n c N (.h1m2 v4 v5 v6 s0 s1 s2 x y) = some (.inl (.h1m3 (w2 + v4) (v5 - w2) (v6 - w2) s0 s1 s2 x y z)) := by
 show Zcy L o n c N v4 v5 v6 s0 s1 s2 x y = _
 unfold Zcy
 exact Zp hw <| Zw (by omega) <| Zp hw <| Zd (by omega) <| Zd (by omega) <| Zp hj <| Zp hw <| Zd (by omega) <| Zd (by omega) <| Zd (by omega) rfl
theorem ZoY {o : Nat} {v4 v5 v6 : Nat} {x y : Int} (hw : Zv s2 N = some (.r0 (w2 : Int))) (h : v5 < w2) : ZaL L o n c N (.h1m2 v4 v5 v6 s0 s1 s2 x y) = some (.inr (.r0 6)) := by
 show Zcy L o n c N v4 v5 v6 s0 s1 s2 x y = _
 unfold Zcy
 exact Zp hw <| Zd (by omega) rfl
theorem ZgU {o : Nat} (hb : ∀ i, i < L.length → 0 ≤ L.getD i 0 ∧ L.getD i 0 ≤ 255) (hn : o + n ≤ L.length) (h0 : n ≠ 0) (hk : ZbN (L.getD o 0) N = some (.r0 nm s0 s1 s2)) {r : Option (ZU ⊕ Zaf)} (ho : (if ZcN nm [] = true then some (.inr (.r0 (100 : Int))) else if (n : Int) ≤ (c : Int) then some (.inl (.h1m0 s0 s1 s2)) else none) = r) : ZeQ L o n c N = r := by
 obtain ⟨b1, b2⟩ := hb o (by omega)
 unfold ZeQ
 exact Zw (by omega) <| Zd (by omega) <| Zd (by omega) <| Zd (by omega) <| Zp hk ho
theorem Zn0 {o : Nat} (hb : ∀ i, i < L.length → 0 ≤ L.getD i 0 ∧ L.getD i 0 ≤ 255) (hn : o + n ≤ L.length) (hL : n ≤ 100000) (hc : n ≤ c) (hN : 2000 ≤ N) (h0 : n ≠ 0) (K : Kd (L.getD o 0) N nm s0 s1 s2 t0 t1 t2 true w0 w1 w2) (hs : n < 1 + w0 + w1 + w2) : Zdc L o n c N = some (.r0 6) := by
 obtain ⟨l0, l1, l2⟩ := And.intro K.l0.le (And.intro K.l1.le K.l2.le)
 refine (ZaC (ZgU hb hn h0 K.k (Zw (by rw [K.e]; decide) <| Zd (by omega) rfl))).trans ?_
 by_cases q0 : n - 1 < w0
 ·exact Zbv (n := 0 + 1) (by omega) (ZO (ZoW K.a0 q0))
 have S1 := ZjL (s1 := s1) (s2 := s2) K.a0 (show w0 ≤ n - 1 by omega) hc (Zfb (c := c - 1) (o := (o + 1)) (N := N) hb (by omega) l0 (by omega))
 by_cases q1 : n - 1 - w0 < w1
 ·exact Zbv (n := 0 + 1 + 1) (by omega) ((Zy S1).trans (ZO (ZoX K.a1 q1)))
 have S2 := ZjM (o := o) (n := n) (c := c) (s0 := s0) (s2 := s2) (x := IntKind.i64.wrap (gV ((L.drop (o + 1)).take w0))) (v4 := (w0 + (o + 1))) (v5 := n - 1 - w0) (v6 := c - 1 - w0) K.a1 (by omega) (by omega) (Zfb (N := N) hb (by omega) l1 (by omega))
 exact Zbv (n := 0 + 1 + 1 + 1) (by omega) ((Zy S1).trans ((Zy S2).trans (ZO (ZoY K.a2 (by omega)))))
theorem Zik {o : Nat} (hb : ∀ i, i < L.length → 0 ≤ L.getD i 0 ∧ L.getD i 0 ≤ 255) (hn : o + n ≤ L.length) (hL : n ≤ 100000) (hc : n ≤ c) (hN : 2000 ≤ N) (K : Kd (L.getD o 0) N nm s0 s1 s2 t0 t1 t2 true w0 w1 w2) (hs : 1 + w0 + w1 + w2 ≤ n) {A B C : Int} (hA : A = IntKind.i64.wrap (gV ((L.drop (o + 1)).take w0))) (hB : B = IntKind.i64.wrap (gV ((L.drop (w0 + (o + 1))).take w1))) (hC : C = IntKind.i64.wrap (gV ((L.drop (w1 + (w0 + (o + 1)))).take w2))) {z : Int} (hz : Z6 (L.getD o 0) A B C N = some (.r0 z)) :
  Zdc L o n c N = if z = 0 then some (.r1 A B C ((L.drop (w2 + (w1 + (w0 + (o + 1))))).take (n - (1 + w0 + w1 + w2)))) else some (.r0 z) := by
 obtain ⟨l0, l1, l2⟩ := And.intro K.l0.le (And.intro K.l1.le K.l2.le)
 have h0 : n ≠ 0 := by omega
 obtain ⟨b1, b2⟩ := hb o (by omega)
 refine (ZaC (ZgU hb hn h0 K.k (Zw (by rw [K.e]; decide) <| Zd (by omega) rfl))).trans ?_
 have S1 := ZjL (o := o) (s1 := s1) (s2 := s2) (z := A) K.a0 (show w0 ≤ n - 1 by omega) hc (by rw [hA]; exact Zfb (c := c - 1) (N := N) hb (by omega) l0 (by omega))
 have S2 := ZjM (o := o) (n := n) (c := c) (s0 := s0) (s2 := s2) (x := A) (z := B) (v4 := (w0 + (o + 1))) (v5 := n - 1 - w0) (v6 := c - 1 - w0) K.a1 (by omega) (by omega) (by rw [hB]; exact Zfb (N := N) hb (by omega) l1 (by omega))
 have S3 := ZpQ (o := o) (n := n) (c := c) (s0 := s0) (s1 := s1) (x := A) (y := B) (z := C) (v4 := (w1 + (w0 + (o + 1)))) (v5 := n - 1 - w0 - w1) (v6 := c - 1 - w0 - w1) K.a2 (by omega) (by omega) (by rw [hC]; exact Zfb (N := N) hb (by omega) l2 (by omega))
 have fin : ∀ r, Zdj L o n c N (w2 + (w1 + (w0 + (o + 1)))) (n - 1 - w0 - w1 - w2) (c - 1 - w0 - w1 - w2) s0 s1 s2 A B C = some (.inr r) → ZaP (ZaL L o n c N) N (.h1m0 s0 s1 s2) = some r := fun r hr => Zbv (n := 0 + 1 + 1 + 1 + 1) (by omega) ((Zy S1).trans ((Zy S2).trans ((Zy S3).trans (ZO hr))))
 by_cases hz0 : z = 0
 ·rw [if_pos hz0]
  refine fin _ ?_
  unfold Zdj
  refine Zd (by omega) <| Zd (by omega) <| Zd (by omega) <| Zd (by omega) <| Zp hz <| Zw (fun h => h hz0) ?_
  by_cases hv : n - 1 - w0 - w1 - w2 = 0
  ·refine Zd hv ?_
   rw [show n - (1 + w0 + w1 + w2) = 0 by omega, List.take_zero]
  ·refine Zw hv <| Zd (by omega) <| Zd (by omega) ?_
   rw [show n - 1 - w0 - w1 - w2 = n - (1 + w0 + w1 + w2) by omega]
 ·rw [if_neg hz0]
  refine fin _ ?_
  unfold Zdj
  exact Zd (by omega) <| Zd (by omega) <| Zd (by omega) <| Zd (by omega) <| Zp hz <| Zd hz0 rfl
theorem Zod {o : Nat} (hb : ∀ i, i < L.length → 0 ≤ L.getD i 0 ∧ L.getD i 0 ≤ 255) (hn : o + n ≤ L.length) (hL : n ≤ 100000) (hc : n ≤ c) (hN : 2000 ≤ N) : (∃ z, z ≠ 0 ∧ Zdc L o n c N = some (.r0 z)) ∨ ∃ i y R, Zdc L o n c N = some (.r1 i.a1 i.a2 i.a3 R) ∧ i.a0 = L.getD o 0 ∧ Zfa i N = some y ∧ (L.drop o).take n = y ++ R := by
 by_cases h0 : n = 0
 ·subst h0
  exact .inl ⟨6, by decide, ZdH (Zd (by omega) rfl)⟩
 obtain ⟨nm, s0, s1, s2, t0, t1, t2, q, w0, w1, w2, K⟩ := kd (L.getD o 0) N
 cases q with
 | false => exact .inl ⟨100, by decide, ZdH (ZgU hb hn h0 K.k (Zd (by rw [K.e]; rfl) rfl))⟩
 | true =>
  by_cases hs : n < 1 + w0 + w1 + w2
  ·exact .inl ⟨6, by decide, Zn0 hb hn hL hc hN h0 K hs⟩
  obtain ⟨d, hz, _⟩ := K.chk (by omega) (IntKind.i64.wrap (gV ((L.drop (o + 1)).take w0))) (IntKind.i64.wrap (gV ((L.drop (w0 + (o + 1))).take w1))) (IntKind.i64.wrap (gV ((L.drop (w1 + (w0 + (o + 1)))).take w2)))
  have F := Zik hb hn hL hc hN K (by omega) rfl rfl rfl hz
  cases d with
  | false => exact .inl ⟨100, by decide, F⟩
  | true =>
   have hM : ((L.drop o).take n).length = n := by rw [List.length_take, List.length_drop]; omega
   have hg : ((L.drop o).take n).getD 0 0 = L.getD o 0 := by
    rw [show ((L.drop o).take n).getD 0 0 = (L.drop o).getD 0 0 from by simp [List.getD, List.getElem?_take, show 0 < n by omega], Zd7, Nat.zero_add]
   have P := Zh6 (op := 0) K.l0 K.l1 K.l2 (Zek hb o n) (by omega)
   rw [hg, Zc7 L o n 1 w0 (by omega), Zc7 L o n (1 + w0) w1 (by omega), Zc7 L o n (1 + w0 + w1) w2 (by omega), Zhz, show 1 + o = (o + 1) by omega, show 1 + w0 + o = (w0 + (o + 1)) by omega, show 1 + w0 + w1 + o = (w1 + (w0 + (o + 1))) by omega, show 1 + w0 + w1 + w2 + o = (w2 + (w1 + (w0 + (o + 1)))) by omega] at P
   exact .inr ⟨⟨L.getD o 0, _, _, _⟩, _, _, F, rfl, Zqt (ZpP K hN hz), P.symm⟩
theorem Zn1 {o : Nat} (hb : ∀ i, i < L.length → 0 ≤ L.getD i 0 ∧ L.getD i 0 ≤ 255) (hn : o + n ≤ L.length) (hL : n ≤ 100000) (hc : n ≤ c) (hN : 2000 ≤ N) {i : R_iiii} {y R : List Int} (hy : Zfa i N = some y) (hM : (L.drop o).take n = y ++ R) : Zdc L o n c N = some (.r1 i.a1 i.a2 i.a3 R) ∧ L.getD o 0 = i.a0 := by
 rcases Zgz i hN with ⟨e, _⟩ | ⟨nm, s0, s1, s2, t0, t1, t2, w0, w1, w2, K, hz, e, _⟩
 ·rw [e] at hy; cases hy
 rw [e] at hy
 obtain rfl := Option.some.inj hy
 obtain ⟨d, hz', hr⟩ := K.chk (by omega) i.a1 i.a2 i.a3
 have hd : d = true := by
  cases d with
  | true => rfl
  | false => rw [hz] at hz'; simp at hz'
 obtain ⟨_, rA, rB, rC⟩ := hr hd
 obtain ⟨u0, u1, u2, u3, u4⟩ := Zqu (R := R) K.l0 K.l1 K.l2 rA rB rC (K.rg rfl)
 have hln : ((L.drop o).take n).length = n := by rw [List.length_take, List.length_drop]; omega
 have hlen : 1 + w0 + w1 + w2 + R.length = n := by rw [← hln, hM, List.length_append, Zhy]
 have hg : ((L.drop o).take n).getD 0 0 = L.getD o 0 := by
  rw [show ((L.drop o).take n).getD 0 0 = (L.drop o).getD 0 0 from by simp [List.getD, List.getElem?_take, show 0 < n by omega], Zd7, Nat.zero_add]
 rw [← hM] at u0 u1 u2 u3 u4
 rw [hg] at u0
 rw [Zc7 L o n 1 w0 (by omega), show 1 + o = (o + 1) by omega] at u1
 rw [Zc7 L o n (1 + w0) w1 (by omega), show 1 + w0 + o = (w0 + (o + 1)) by omega] at u2
 rw [Zc7 L o n (1 + w0 + w1) w2 (by omega), show 1 + w0 + w1 + o = (w1 + (w0 + (o + 1))) by omega] at u3
 rw [Zhz, show 1 + w0 + w1 + w2 + o = (w2 + (w1 + (w0 + (o + 1)))) by omega] at u4
 have K' := K
 rw [← u0] at K'
 have F := Zik hb hn hL hc hN K' (by omega) u1.symm u2.symm u3.symm (by rw [u0]; exact hz)
 rw [if_pos rfl, u4] at F
 exact ⟨F, u0⟩
end
theorem Zel {L : List Int} {o w c N : Nat} (hb : ∀ i, i < L.length → 0 ≤ L.getD i 0 ∧ L.getD i 0 ≤ 255) (hn : o + w ≤ L.length) (hw : w ≤ 8) (hN : 100 ≤ N) : ZcA L o w c N = some (.r0 (IntKind.i64.wrap (gV ((L.drop o).take w)))) := by
 unfold ZcA
 have loop : ∀ d j f v, j + d = w → d < f → v = gV ((L.drop o).take j) → 0 ≤ v → v < ((256 ^ j : Nat) : Int) → ZaP (Zeg L o w c N) f (.h1m0 v j) = some (.r0 (IntKind.i64.wrap (gV ((L.drop o).take w)))) := by
  intro d
  induction d with
  | zero =>
   intro j f v hj hf hv h0 h1
   obtain ⟨f, rfl⟩ : ∃ g, f = g + 1 := ⟨f - 1, by omega⟩
   refine ZO ?_
   show Zcz L o w c N v j = _
   unfold Zcz
   refine Zw (by omega) ?_
   obtain rfl : j = w := by omega
   rw [hv]
  | succ d ih =>
   intro j f v hj hf hv h0 h1
   obtain ⟨f, rfl⟩ : ∃ g, f = g + 1 := ⟨f - 1, by omega⟩
   obtain ⟨b0, b1⟩ := hb (j + o) (by omega)
   obtain ⟨e1, e2, e3⟩ := ZsT h0 h1 (by omega) b0 b1
   refine (Zy (y := .h1m0 (256 * v + L.getD (j + o) 0) (j + 1)) ?_).trans (ih (j + 1) f _ (by omega) (by omega) ?_ e2 e3)
   ·show Zcz L o w c N v j = _
    unfold Zcz
    rw [ZsS b0 b1, e1]
    exact Zd (by omega) (Zd (by omega) (Zd b0 (Zd (by omega) (Zd (by omega) rfl))))
   ·rw [hv, ← Zqs, ← Zd7, Zc5 (by rw [List.length_drop]; omega)]
 exact loop w 0 N 0 (by omega) (by omega) rfl (by decide) (by decide)
section
variable {L : List Int} {n c N w0 w1 w2 : Nat} {s0 s1 s2 t0 t1 t2 : Int} {nm : List Int}
theorem Zil {z : Int} (hw : Zv s0 N = some (.r0 (w0 : Int))) (h : w0 ≤ n - 1) (hc : n ≤ c) (hj : ZcA L 1 w0 (c - 1) N = some (.r0 z)) :
  Za5 L n c N (.h1m0 s0 s1 s2) = some (.inl (.h1m1 (w0 + 1) (n - 1 - w0) (c - 1 - w0) s0 s1 s2 z)) := by
 show ZbV L n c N s0 s1 s2 = _
 unfold ZbV
 exact Zp hw <| Zw (by omega) <| Zp hw <| Zd (by omega) <| Zd (by omega) <| Zp hj <| Zp hw <| Zd (by omega) <| Zd (by omega) <| Zd (by omega) rfl
theorem Zn2 (hw : Zv s0 N = some (.r0 (w0 : Int))) (h : n - 1 < w0) : Za5 L n c N (.h1m0 s0 s1 s2) = some (.inr (.r0 6)) := by
 show ZbV L n c N s0 s1 s2 = _
 unfold ZbV
 exact Zp hw <| Zd (by omega) rfl
theorem Zim {v4 v5 v6 : Nat} {x z : Int} (hw : Zv s1 N = some (.r0 (w1 : Int))) (h : w1 ≤ v5) (hc : v5 ≤ v6) (hj : ZcA L v4 w1 v6 N = some (.r0 z)) :
  Za5 L n c N (.h1m1 v4 v5 v6 s0 s1 s2 x) = some (.inl (.h1m2 (w1 + v4) (v5 - w1) (v6 - w1) s0 s1 s2 x z)) := by
 show ZbW L n c N v4 v5 v6 s0 s1 s2 x = _
 unfold ZbW
 exact Zp hw <| Zw (by omega) <| Zp hw <| Zd (by omega) <| Zd (by omega) <| Zp hj <| Zp hw <| Zd (by omega) <| Zd (by omega) <| Zd (by omega) rfl
theorem Zn3 {v4 v5 v6 : Nat} {x : Int} (hw : Zv s1 N = some (.r0 (w1 : Int))) (h : v5 < w1) : Za5 L n c N (.h1m1 v4 v5 v6 s0 s1 s2 x) = some (.inr (.r0 6)) := by
 show ZbW L n c N v4 v5 v6 s0 s1 s2 x = _
 unfold ZbW
 exact Zp hw <| Zd (by omega) rfl
theorem Zoe {v4 v5 v6 : Nat} {x y z : Int} (hw : Zv s2 N = some (.r0 (w2 : Int))) (h : w2 ≤ v5) (hc : v5 ≤ v6) (hj : ZcA L v4 w2 v6 N = some (.r0 z)) :
  Za5 L n c N (.h1m2 v4 v5 v6 s0 s1 s2 x y) = some (.inl (.h1m3 (w2 + v4) (v5 - w2) (v6 - w2) s0 s1 s2 x y z)) := by
 show ZbX L n c N v4 v5 v6 s0 s1 s2 x y = _
 unfold ZbX
 exact Zp hw <| Zw (by omega) <| Zp hw <| Zd (by omega) <| Zd (by omega) <| Zp hj <| Zp hw <| Zd (by omega) <| Zd (by omega) <| Zd (by omega) rfl
theorem Zn4 {v4 v5 v6 : Nat} {x y : Int} (hw : Zv s2 N = some (.r0 (w2 : Int))) (h : v5 < w2) : Za5 L n c N (.h1m2 v4 v5 v6 s0 s1 s2 x y) = some (.inr (.r0 6)) := by
 show ZbX L n c N v4 v5 v6 s0 s1 s2 x y = _
 unfold ZbX
 exact Zp hw <| Zd (by omega) rfl
theorem Zgf (hb : ∀ i, i < L.length → 0 ≤ L.getD i 0 ∧ L.getD i 0 ≤ 255) (hn : 0 + n ≤ L.length) (h0 : n ≠ 0) (hk : ZbN (L.getD 0 0) N = some (.r0 nm s0 s1 s2)) {r : Option (ZJ ⊕ ZR)} (ho : (if ZcN nm [] = true then some (.inr (.r0 (100 : Int))) else if (n : Int) ≤ (c : Int) then some (.inl (.h1m0 s0 s1 s2)) else none) = r) : Zeh L n c N = r := by
 obtain ⟨b1, b2⟩ := hb 0 (by omega)
 unfold Zeh
 exact Zw (by omega) <| Zd (by omega) <| Zd (by omega) <| Zd (by omega) <| Zp hk ho
theorem Zly (hb : ∀ i, i < L.length → 0 ≤ L.getD i 0 ∧ L.getD i 0 ≤ 255) (hn : 0 + n ≤ L.length) (hL : n ≤ 100000) (hc : n ≤ c) (hN : 2000 ≤ N) (h0 : n ≠ 0) (K : Kd (L.getD 0 0) N nm s0 s1 s2 t0 t1 t2 true w0 w1 w2) (hs : n < 1 + w0 + w1 + w2) : Zcp L n c N = some (.r0 6) := by
 obtain ⟨l0, l1, l2⟩ := And.intro K.l0.le (And.intro K.l1.le K.l2.le)
 refine (ZaC (Zgf hb hn h0 K.k (Zw (by rw [K.e]; decide) <| Zd (by omega) rfl))).trans ?_
 by_cases q0 : n - 1 < w0
 ·exact Zbv (n := 0 + 1) (by omega) (ZO (Zn2 K.a0 q0))
 have S1 := Zil (s1 := s1) (s2 := s2) K.a0 (show w0 ≤ n - 1 by omega) hc (Zel (c := c - 1) (o := 1) (N := N) hb (by omega) l0 (by omega))
 by_cases q1 : n - 1 - w0 < w1
 ·exact Zbv (n := 0 + 1 + 1) (by omega) ((Zy S1).trans (ZO (Zn3 K.a1 q1)))
 have S2 := Zim (n := n) (c := c) (s0 := s0) (s2 := s2) (x := IntKind.i64.wrap (gV ((L.drop 1).take w0))) (v4 := (w0 + 1)) (v5 := n - 1 - w0) (v6 := c - 1 - w0) K.a1 (by omega) (by omega) (Zel (N := N) hb (by omega) l1 (by omega))
 exact Zbv (n := 0 + 1 + 1 + 1) (by omega) ((Zy S1).trans ((Zy S2).trans (ZO (Zn4 K.a2 (by omega)))))
theorem Zhe (hb : ∀ i, i < L.length → 0 ≤ L.getD i 0 ∧ L.getD i 0 ≤ 255) (hn : 0 + n ≤ L.length) (hL : n ≤ 100000) (hc : n ≤ c) (hN : 2000 ≤ N) (K : Kd (L.getD 0 0) N nm s0 s1 s2 t0 t1 t2 true w0 w1 w2) (hs : 1 + w0 + w1 + w2 ≤ n) {A B C : Int} (hA : A = IntKind.i64.wrap (gV ((L.drop 1).take w0))) (hB : B = IntKind.i64.wrap (gV ((L.drop (w0 + 1)).take w1))) (hC : C = IntKind.i64.wrap (gV ((L.drop (w1 + (w0 + 1))).take w2))) {z : Int} (hz : Z6 (L.getD 0 0) A B C N = some (.r0 z)) :
  Zcp L n c N = if z = 0 then some (.r1 A B C ((L.drop (w2 + (w1 + (w0 + 1)))).take (n - (1 + w0 + w1 + w2)))) else some (.r0 z) := by
 obtain ⟨l0, l1, l2⟩ := And.intro K.l0.le (And.intro K.l1.le K.l2.le)
 have h0 : n ≠ 0 := by omega
 obtain ⟨b1, b2⟩ := hb 0 (by omega)
 refine (ZaC (Zgf hb hn h0 K.k (Zw (by rw [K.e]; decide) <| Zd (by omega) rfl))).trans ?_
 have S1 := Zil (s1 := s1) (s2 := s2) (z := A) K.a0 (show w0 ≤ n - 1 by omega) hc (by rw [hA]; exact Zel (c := c - 1) (N := N) hb (by omega) l0 (by omega))
 have S2 := Zim (n := n) (c := c) (s0 := s0) (s2 := s2) (x := A) (z := B) (v4 := (w0 + 1)) (v5 := n - 1 - w0) (v6 := c - 1 - w0) K.a1 (by omega) (by omega) (by rw [hB]; exact Zel (N := N) hb (by omega) l1 (by omega))
 have S3 := Zoe (n := n) (c := c) (s0 := s0) (s1 := s1) (x := A) (y := B) (z := C) (v4 := (w1 + (w0 + 1))) (v5 := n - 1 - w0 - w1) (v6 := c - 1 - w0 - w1) K.a2 (by omega) (by omega) (by rw [hC]; exact Zel (N := N) hb (by omega) l2 (by omega))
 have fin : ∀ r, Zc6 L n c N (w2 + (w1 + (w0 + 1))) (n - 1 - w0 - w1 - w2) (c - 1 - w0 - w1 - w2) s0 s1 s2 A B C = some (.inr r) → ZaP (Za5 L n c N) N (.h1m0 s0 s1 s2) = some r := fun r hr => Zbv (n := 0 + 1 + 1 + 1 + 1) (by omega) ((Zy S1).trans ((Zy S2).trans ((Zy S3).trans (ZO hr))))
 by_cases hz0 : z = 0
 ·rw [if_pos hz0]
  refine fin _ ?_
  unfold Zc6
  refine Zd (by omega) <| Zd (by omega) <| Zd (by omega) <| Zd (by omega) <| Zp hz <| Zw (fun h => h hz0) ?_
  by_cases hv : n - 1 - w0 - w1 - w2 = 0
  ·refine Zd hv ?_
   rw [show n - (1 + w0 + w1 + w2) = 0 by omega, List.take_zero]
  ·refine Zw hv <| Zd (by omega) <| Zd (by omega) ?_
   rw [show n - 1 - w0 - w1 - w2 = n - (1 + w0 + w1 + w2) by omega]
 ·rw [if_neg hz0]
  refine fin _ ?_
  unfold Zc6
  exact Zd (by omega) <| Zd (by omega) <| Zd (by omega) <| Zd (by omega) <| Zp hz <| Zd hz0 rfl
theorem Zmi (hb : ∀ i, i < L.length → 0 ≤ L.getD i 0 ∧ L.getD i 0 ≤ 255) (hn : 0 + n ≤ L.length) (hL : n ≤ 100000) (hc : n ≤ c) (hN : 2000 ≤ N) : (∃ z, z ≠ 0 ∧ Zcp L n c N = some (.r0 z)) ∨ ∃ i y R, Zcp L n c N = some (.r1 i.a1 i.a2 i.a3 R) ∧ i.a0 = L.getD 0 0 ∧ Zfa i N = some y ∧ (L.drop 0).take n = y ++ R := by
 by_cases h0 : n = 0
 ·subst h0
  exact .inl ⟨6, by decide, ZdH (Zd (by omega) rfl)⟩
 obtain ⟨nm, s0, s1, s2, t0, t1, t2, q, w0, w1, w2, K⟩ := kd (L.getD 0 0) N
 cases q with
 | false => exact .inl ⟨100, by decide, ZdH (Zgf hb hn h0 K.k (Zd (by rw [K.e]; rfl) rfl))⟩
 | true =>
  by_cases hs : n < 1 + w0 + w1 + w2
  ·exact .inl ⟨6, by decide, Zly hb hn hL hc hN h0 K hs⟩
  obtain ⟨d, hz, _⟩ := K.chk (by omega) (IntKind.i64.wrap (gV ((L.drop 1).take w0))) (IntKind.i64.wrap (gV ((L.drop (w0 + 1)).take w1))) (IntKind.i64.wrap (gV ((L.drop (w1 + (w0 + 1))).take w2)))
  have F := Zhe hb hn hL hc hN K (by omega) rfl rfl rfl hz
  cases d with
  | false => exact .inl ⟨100, by decide, F⟩
  | true =>
   have hM : ((L.drop 0).take n).length = n := by rw [List.length_take, List.length_drop]; omega
   have hg : ((L.drop 0).take n).getD 0 0 = L.getD 0 0 := by
    rw [show ((L.drop 0).take n).getD 0 0 = (L.drop 0).getD 0 0 from by simp [List.getD, List.getElem?_take, show 0 < n by omega], Zd7, Nat.zero_add]
   have P := Zh6 (op := 0) K.l0 K.l1 K.l2 (Zek hb 0 n) (by omega)
   rw [hg, Zc7 L 0 n 1 w0 (by omega), Zc7 L 0 n (1 + w0) w1 (by omega), Zc7 L 0 n (1 + w0 + w1) w2 (by omega), Zhz, show 1 + 0 = 1 by omega, show 1 + w0 + 0 = (w0 + 1) by omega, show 1 + w0 + w1 + 0 = (w1 + (w0 + 1)) by omega, show 1 + w0 + w1 + w2 + 0 = (w2 + (w1 + (w0 + 1))) by omega] at P
   exact .inr ⟨⟨L.getD 0 0, _, _, _⟩, _, _, F, rfl, Zqt (ZpP K hN hz), P.symm⟩
theorem Zfv (hb : ∀ i, i < L.length → 0 ≤ L.getD i 0 ∧ L.getD i 0 ≤ 255) (hn : 0 + n ≤ L.length) (hL : n ≤ 100000) (hc : n ≤ c) (hN : 2000 ≤ N) {i : R_iiii} {y R : List Int} (hy : Zfa i N = some y) (hM : (L.drop 0).take n = y ++ R) : Zcp L n c N = some (.r1 i.a1 i.a2 i.a3 R) ∧ L.getD 0 0 = i.a0 := by
 rcases Zgz i hN with ⟨e, _⟩ | ⟨nm, s0, s1, s2, t0, t1, t2, w0, w1, w2, K, hz, e, _⟩
 ·rw [e] at hy; cases hy
 rw [e] at hy
 obtain rfl := Option.some.inj hy
 obtain ⟨d, hz', hr⟩ := K.chk (by omega) i.a1 i.a2 i.a3
 have hd : d = true := by
  cases d with
  | true => rfl
  | false => rw [hz] at hz'; simp at hz'
 obtain ⟨_, rA, rB, rC⟩ := hr hd
 obtain ⟨u0, u1, u2, u3, u4⟩ := Zqu (R := R) K.l0 K.l1 K.l2 rA rB rC (K.rg rfl)
 have hln : ((L.drop 0).take n).length = n := by rw [List.length_take, List.length_drop]; omega
 have hlen : 1 + w0 + w1 + w2 + R.length = n := by rw [← hln, hM, List.length_append, Zhy]
 have hg : ((L.drop 0).take n).getD 0 0 = L.getD 0 0 := by
  rw [show ((L.drop 0).take n).getD 0 0 = (L.drop 0).getD 0 0 from by simp [List.getD, List.getElem?_take, show 0 < n by omega], Zd7, Nat.zero_add]
 rw [← hM] at u0 u1 u2 u3 u4
 rw [hg] at u0
 rw [Zc7 L 0 n 1 w0 (by omega), show 1 + 0 = 1 by omega] at u1
 rw [Zc7 L 0 n (1 + w0) w1 (by omega), show 1 + w0 + 0 = (w0 + 1) by omega] at u2
 rw [Zc7 L 0 n (1 + w0 + w1) w2 (by omega), show 1 + w0 + w1 + 0 = (w1 + (w0 + 1)) by omega] at u3
 rw [Zhz, show 1 + w0 + w1 + w2 + 0 = (w2 + (w1 + (w0 + 1))) by omega] at u4
 have K' := K
 rw [← u0] at K'
 have F := Zhe hb hn hL hc hN K' (by omega) u1.symm u2.symm u3.symm (by rw [u0]; exact hz)
 rw [if_pos rfl, u4] at F
 exact ⟨F, u0⟩
end
theorem ZhX {L : List Int} {o w c N : Nat} (hb : ∀ i, i < L.length → 0 ≤ L.getD i 0 ∧ L.getD i 0 ≤ 255) (hn : o + w ≤ L.length) (hw : w ≤ 8) (hN : 100 ≤ N) : ZfJ L o w c N = some (.r0 (IntKind.i64.wrap (gV ((L.drop o).take w)))) := by
 unfold ZfJ
 have loop : ∀ d j f v, j + d = w → d < f → v = gV ((L.drop o).take j) → 0 ≤ v → v < ((256 ^ j : Nat) : Int) → ZaP (Zfx L o w c N) f (.h1m0 v j) = some (.r0 (IntKind.i64.wrap (gV ((L.drop o).take w)))) := by
  intro d
  induction d with
  | zero =>
   intro j f v hj hf hv h0 h1
   obtain ⟨f, rfl⟩ : ∃ g, f = g + 1 := ⟨f - 1, by omega⟩
   refine ZO ?_
   show Zdx L o w c N v j = _
   unfold Zdx
   refine Zw (by omega) ?_
   obtain rfl : j = w := by omega
   rw [hv]
  | succ d ih =>
   intro j f v hj hf hv h0 h1
   obtain ⟨f, rfl⟩ : ∃ g, f = g + 1 := ⟨f - 1, by omega⟩
   obtain ⟨b0, b1⟩ := hb (j + o) (by omega)
   obtain ⟨e1, e2, e3⟩ := ZsT h0 h1 (by omega) b0 b1
   refine (Zy (y := .h1m0 (256 * v + L.getD (j + o) 0) (j + 1)) ?_).trans (ih (j + 1) f _ (by omega) (by omega) ?_ e2 e3)
   ·show Zdx L o w c N v j = _
    unfold Zdx
    rw [e1]
    exact Zd (by omega) (Zd (by omega) (Zd b0 (Zd (by omega) (Zd (by omega) rfl))))
   ·rw [hv, ← Zqs, ← Zd7, Zc5 (by rw [List.length_drop]; omega)]
 exact loop w 0 N 0 (by omega) (by omega) rfl (by decide) (by decide)
section
variable {L : List Int} {o n c N : Nat}
theorem ZtK {nm : List Int} {s0 s1 s2 t0 t1 t2 : Int} {b : Bool} {w0 w1 w2 : Nat} (hb : ∀ i, i < L.length → 0 ≤ L.getD i 0 ∧ L.getD i 0 ≤ 255) (hn : o + n ≤ L.length) (hL : n ≤ 100000) (hc : n ≤ c) (hN : 2000 ≤ N) (h0 : n ≠ 0) (K : Kd (L.getD o 0) N nm s0 s1 s2 t0 t1 t2 b w0 w1 w2) {d : Bool} (hi : ZS (L.getD o 0) (IntKind.i64.wrap (gV ((L.drop (o + 1)).take w0))) (IntKind.i64.wrap (gV ((L.drop (w0 + (o + 1))).take w1))) (IntKind.i64.wrap (gV ((L.drop (w1 + (w0 + (o + 1)))).take w2))) N = some (.r0 d)) :
  Zb1 L o n c N = if b = true then if n < 1 + w0 + w1 + w2 then some (.r0 6) else if d = true then some (.r1 (IntKind.i64.wrap (gV ((L.drop (o + 1)).take w0))) (IntKind.i64.wrap (gV ((L.drop (w0 + (o + 1))).take w1))) (IntKind.i64.wrap (gV ((L.drop (w1 + (w0 + (o + 1)))).take w2))) (1 + w0 + w1 + w2 + o) (n - (1 + w0 + w1 + w2)) (c - (1 + w0 + w1 + w2))) else some (.r0 100) else some (.r0 100) := by
 obtain ⟨b1, b2⟩ := hb o (by omega)
 have hre : ∀ (k : ZL → Option ZaX) r, k (.r0 t0 t1 t2 b) = r → (Zc3 (L.getD o 0) N).bind k = r := fun k r ho => Zp K.h ho
 obtain ⟨l0, l1, l2⟩ := And.intro K.l0.le (And.intro K.l1.le K.l2.le)
 unfold Zb1
 refine Zw (by omega) <| Zd (by omega) <| Zd (by omega) <| Zd (by omega) <| hre _ _ ?_
 cases b with
 | false => rw [if_neg (by decide)]; exact Zd (by decide) rfl
 | true =>
  rw [if_pos rfl]
  have e0 : IntKind.i64.wrap ((1 : Int) + (w0 : Int)) = ((1 + w0 : Nat) : Int) := by rw [w64 (by omega) (by omega)]; omega
  have e1 : IntKind.i64.wrap ((IntKind.i64.wrap ((1 : Int) + (w0 : Int))) + (w1 : Int)) = ((1 + w0 + w1 : Nat) : Int) := by rw [e0, w64 (by omega) (by omega)]; omega
  have e2 : IntKind.i64.wrap ((IntKind.i64.wrap ((IntKind.i64.wrap ((1 : Int) + (w0 : Int))) + (w1 : Int))) + (w2 : Int)) = ((1 + w0 + w1 + w2 : Nat) : Int) := by rw [e1, w64 (by omega) (by omega)]; omega
  have e1' : IntKind.i64.wrap (((1 + w0 : Nat) : Int) + (w1 : Int)) = ((1 + w0 + w1 : Nat) : Int) := by rw [← e1, e0]
  have e2' : IntKind.i64.wrap (((1 + w0 + w1 : Nat) : Int) + (w2 : Int)) = ((1 + w0 + w1 + w2 : Nat) : Int) := by rw [← e2, e1]
  refine Zw (by decide) <| Zp (K.c0 rfl) <| Zp (K.c0 rfl) <| Zp (K.c1 rfl) <| Zp (K.c2 rfl) ?_
  by_cases hs : n < 1 + w0 + w1 + w2
  ·rw [if_pos hs]
   exact Zd (by rw [e2]; omega) rfl
  ·rw [if_neg hs]
   refine Zw (by rw [e2]; omega) <| Zd (by rw [e0]; omega) <| Zd (by rw [e0]; omega) ?_
   have G0 := ZhX (L := L) (o := o + 1) (w := w0) (c := c - 1) (N := N) hb (by omega) l0 (by omega)
   have G1 := ZhX (L := L) (o := w0 + (o + 1)) (w := w1) (c := c - (1 + w0)) (N := N) hb (by omega) l1 (by omega)
   have G2 := ZhX (L := L) (o := w1 + (w0 + (o + 1))) (w := w2) (c := c - (1 + w0 + w1)) (N := N) hb (by omega) l2 (by omega)
   simp only [e0, e1', e2', Int.toNat_natCast, show 1 + w0 - 1 = w0 by omega, show 1 + w0 + w1 - (1 + w0) = w1 by omega, show 1 + w0 + w1 + w2 - (1 + w0 + w1) = w2 by omega, show 1 + w0 + o = w0 + (o + 1) by omega, show 1 + w0 + w1 + o = w1 + (w0 + (o + 1)) by omega]
   refine Zp G0 <| Zd (by omega) <| Zd (by omega) <| Zp G1 <| Zd (by omega) <| Zd (by omega) <| Zp G2 <| Zp hi ?_
   cases d with
   | false => exact Zd (by decide) rfl
   | true => exact Zw (by decide) <| Zd (by omega) rfl
theorem Zof : Zb1 L o 0 c N = some (.r0 6) := by
 unfold Zb1; exact Zd (by omega) rfl
theorem Zin (hb : ∀ i, i < L.length → 0 ≤ L.getD i 0 ∧ L.getD i 0 ≤ 255) (hn : o + n ≤ L.length) (hL : n ≤ 100000) (hc : n ≤ c) (hN : 2000 ≤ N) : (∃ z, z ≠ 0 ∧ Zb1 L o n c N = some (.r0 z)) ∨ ∃ i y R, Zb1 L o n c N = some (.r1 i.a1 i.a2 i.a3 (y.length + o) (n - y.length) (c - y.length)) ∧ i.a0 = L.getD o 0 ∧ Zfa i N = some y ∧ (L.drop o).take n = y ++ R := by
 by_cases h0 : n = 0
 ·subst h0; exact .inl ⟨6, by decide, Zof⟩
 obtain ⟨nm, s0, s1, s2, t0, t1, t2, q, w0, w1, w2, K⟩ := kd (L.getD o 0) N
 obtain ⟨d, hz, hi, _⟩ := ZoV (L.getD o 0) (IntKind.i64.wrap (gV ((L.drop (o + 1)).take w0))) (IntKind.i64.wrap (gV ((L.drop (w0 + (o + 1))).take w1))) (IntKind.i64.wrap (gV ((L.drop (w1 + (w0 + (o + 1)))).take w2))) N (by omega)
 have F := ZtK hb hn hL hc hN h0 K hi
 cases q with
 | false => exact .inl ⟨100, by decide, F⟩
 | true =>
  rw [if_pos rfl] at F
  by_cases hs : n < 1 + w0 + w1 + w2
  ·rw [if_pos hs] at F; exact .inl ⟨6, by decide, F⟩
  rw [if_neg hs] at F
  cases d with
  | false => exact .inl ⟨100, by decide, F⟩
  | true =>
   rw [if_pos rfl] at F
   have hM : ((L.drop o).take n).length = n := by rw [List.length_take, List.length_drop]; omega
   have hg : ((L.drop o).take n).getD 0 0 = L.getD o 0 := by
    rw [show ((L.drop o).take n).getD 0 0 = (L.drop o).getD 0 0 from by simp [List.getD, List.getElem?_take, show 0 < n by omega], Zd7, Nat.zero_add]
   have P := Zh6 (op := 0) K.l0 K.l1 K.l2 (Zek hb o n) (by omega)
   rw [hg, Zc7 L o n 1 w0 (by omega), Zc7 L o n (1 + w0) w1 (by omega), Zc7 L o n (1 + w0 + w1) w2 (by omega), show 1 + o = o + 1 by omega, show 1 + w0 + o = w0 + (o + 1) by omega, show 1 + w0 + w1 + o = w1 + (w0 + (o + 1)) by omega] at P
   exact .inr ⟨⟨L.getD o 0, _, _, _⟩, _, _, (by rw [Zhy]; exact F), rfl, Zqt (ZpP K hN hz), P.symm⟩
theorem ZhM (hb : ∀ i, i < L.length → 0 ≤ L.getD i 0 ∧ L.getD i 0 ≤ 255) (hn : o + n ≤ L.length) (hL : n ≤ 100000) (hc : n ≤ c) (hN : 2000 ≤ N) {i : R_iiii} {y R : List Int} (hy : Zfa i N = some y) (hM : (L.drop o).take n = y ++ R) : Zb1 L o n c N = some (.r1 i.a1 i.a2 i.a3 (y.length + o) (n - y.length) (c - y.length)) ∧ L.getD o 0 = i.a0 := by
 rcases Zgz i hN with ⟨e, _⟩ | ⟨nm, s0, s1, s2, t0, t1, t2, w0, w1, w2, K, hz, e, _⟩
 ·rw [e] at hy; cases hy
 rw [e] at hy
 obtain rfl := Option.some.inj hy
 obtain ⟨d, hz', hr⟩ := K.chk (by omega) i.a1 i.a2 i.a3
 have hd : d = true := by
  cases d with
  | true => rfl
  | false => rw [hz] at hz'; simp at hz'
 obtain ⟨_, rA, rB, rC⟩ := hr hd
 obtain ⟨u0, u1, u2, u3, u4⟩ := Zqu (R := R) K.l0 K.l1 K.l2 rA rB rC (K.rg rfl)
 have hln : ((L.drop o).take n).length = n := by rw [List.length_take, List.length_drop]; omega
 have hlen : 1 + w0 + w1 + w2 + R.length = n := by rw [← hln, hM, List.length_append, Zhy]
 have hg : ((L.drop o).take n).getD 0 0 = L.getD o 0 := by
  rw [show ((L.drop o).take n).getD 0 0 = (L.drop o).getD 0 0 from by simp [List.getD, List.getElem?_take, show 0 < n by omega], Zd7, Nat.zero_add]
 rw [← hM] at u0 u1 u2 u3 u4
 rw [hg] at u0
 rw [Zc7 L o n 1 w0 (by omega), show 1 + o = o + 1 by omega] at u1
 rw [Zc7 L o n (1 + w0) w1 (by omega), show 1 + w0 + o = w0 + (o + 1) by omega] at u2
 rw [Zc7 L o n (1 + w0 + w1) w2 (by omega), show 1 + w0 + w1 + o = w1 + (w0 + (o + 1)) by omega] at u3
 have K' := K
 rw [← u0] at K'
 obtain ⟨d', hz2, hi2, _⟩ := ZoV i.a0 i.a1 i.a2 i.a3 N (by omega)
 have hd' : d' = true := by
  cases d' with
  | true => rfl
  | false => rw [hz] at hz2; simp at hz2
 subst hd'
 have F := ZtK hb hn hL hc hN (by omega) K' (d := true) (by rw [u1, u2, u3, u0]; exact hi2)
 rw [if_pos rfl, if_neg (by omega), if_pos rfl, u1, u2, u3] at F
 rw [Zhy]
 exact ⟨F, u0⟩
end
end Ev
end Go.Proofs.Ytjfmadhcbgdakaa
