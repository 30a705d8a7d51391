/- InstrBytes: bytes of an instruction, and what bytes are: the program's and the document's answers are the same. -/
import Derived.Test.YtikgfmbhfienjaaIbv
import Derived.Test.YtikgfmbhfienjaaIbu
namespace Go.Proofs.Ytikgfmbhfienjaa
open Go.RowKit
namespace Ev
set_option linter.unusedVariables false
set_option linter.unusedSimpArgs false
/-- So many bytes of a number, the highest first. -/
def bytesI : Nat → Int → List Int
  | 0, _ => []
  | k + 1, u => IntKind.u8.wrap (IntKind.u64.wrap u / (2 ^ (8 * k) : Int)) :: bytesI k u
theorem by1 (u : Int) : IntKind.u8.wrap (IntKind.u64.wrap u / (2 ^ (8 * 0) : Int)) = IntKind.u64.wrap u % 256 := by
  rw [u8_mod, show (2 ^ (8 * 0) : Int) = 1 from rfl, Int.ediv_one]
theorem by2 (u : Int) : IntKind.u8.wrap (IntKind.u64.wrap u / (2 ^ (8 * 1) : Int)) = ((IntKind.u64.wrap u) / (256 : Int)) % (256 : Int) := by
  rw [u8_mod, show (2 ^ (8 * 1) : Int) = 256 from rfl]
theorem by3 (u : Int) : IntKind.u8.wrap (IntKind.u64.wrap u / (2 ^ (8 * 2) : Int)) = (((IntKind.u64.wrap u) / (256 : Int)) / (256 : Int)) % (256 : Int) := by
  rw [u8_mod, show (2 ^ (8 * 2) : Int) = 65536 from rfl]
  generalize IntKind.u64.wrap u = x
  omega
theorem by4 (u : Int) : IntKind.u8.wrap (IntKind.u64.wrap u / (2 ^ (8 * 3) : Int)) = ((((IntKind.u64.wrap u) / (256 : Int)) / (256 : Int)) / (256 : Int)) % (256 : Int) := by
  rw [u8_mod, show (2 ^ (8 * 3) : Int) = 16777216 from rfl]
  generalize IntKind.u64.wrap u = x
  omega
theorem by5 (u : Int) : IntKind.u8.wrap (IntKind.u64.wrap u / (2 ^ (8 * 4) : Int)) = (((((IntKind.u64.wrap u) / (256 : Int)) / (256 : Int)) / (256 : Int)) / (256 : Int)) % (256 : Int) := by
  rw [u8_mod, show (2 ^ (8 * 4) : Int) = 4294967296 from rfl]
  generalize IntKind.u64.wrap u = x
  omega
theorem by6 (u : Int) : IntKind.u8.wrap (IntKind.u64.wrap u / (2 ^ (8 * 5) : Int)) = ((((((IntKind.u64.wrap u) / (256 : Int)) / (256 : Int)) / (256 : Int)) / (256 : Int)) / (256 : Int)) % (256 : Int) := by
  rw [u8_mod, show (2 ^ (8 * 5) : Int) = 1099511627776 from rfl]
  generalize IntKind.u64.wrap u = x
  omega
theorem by7 (u : Int) : IntKind.u8.wrap (IntKind.u64.wrap u / (2 ^ (8 * 6) : Int)) = (((((((IntKind.u64.wrap u) / (256 : Int)) / (256 : Int)) / (256 : Int)) / (256 : Int)) / (256 : Int)) / (256 : Int)) % (256 : Int) := by
  rw [u8_mod, show (2 ^ (8 * 6) : Int) = 281474976710656 from rfl]
  generalize IntKind.u64.wrap u = x
  omega
theorem by8 (u : Int) : IntKind.u8.wrap (IntKind.u64.wrap u / (2 ^ (8 * 7) : Int)) = ((((((((IntKind.u64.wrap u) / (256 : Int)) / (256 : Int)) / (256 : Int)) / (256 : Int)) / (256 : Int)) / (256 : Int)) / (256 : Int)) % (256 : Int) := by
  rw [u8_mod, show (2 ^ (8 * 7) : Int) = 72057594037927936 from rfl]
  generalize IntKind.u64.wrap u = x
  omega
/-- What is known of a kind. -/
structure Kd (op : Int) (N : Nat) (nm : List Int) (s0 s1 s2 h0 h1 h2 : Int) (b : Bool) (w0 w1 w2 : Nat) : Prop where
  k : instr_kind_2 op N = some (.r0 nm s0 s1 s2)
  h : ref10_Has op N = some (.r0 h0 h1 h2 b)
  e : strB nm [] = !b
  l0 : w0 ≤ 8
  l1 : w1 ≤ 8
  l2 : w2 ≤ 8
  a0 : instr_shape_width s0 N = some (.r0 (w0 : Int))
  a1 : instr_shape_width s1 N = some (.r0 (w1 : Int))
  a2 : instr_shape_width s2 N = some (.r0 (w2 : Int))
  c0 : b = true → ref10_wide h0 N = some (.r0 (w0 : Int))
  c1 : b = true → ref10_wide h1 N = some (.r0 (w1 : Int))
  c2 : b = true → ref10_wide h2 N = some (.r0 (w2 : Int))
  enc : ∀ A B C, ref10_Is op A B C N = some (.r0 true) → ref10_Encode op A B C N = some (.r1 (IntKind.u8.wrap op :: (bytesI w0 A ++ bytesI w1 B ++ bytesI w2 C)))
theorem kd_no {op : Int} {N : Nat} (h : op < 0 ∨ 21 ≤ op ∨ op = 0) : Kd op N [] 0 0 0 0 0 0 false 0 0 0 := by
  refine ⟨?_, ?_, rfl, by omega, by omega, by omega, rfl, rfl, rfl, (fun h => by cases h), (fun h => by cases h), (fun h => by cases h), fun A B C hi => ?_⟩
  · unfold instr_kind_2
    by_cases h1 : op < 0
    · exact ite_yes h1 rfl
    · by_cases h2 : 21 ≤ op
      · exact ite_no h1 <| ite_yes h2 rfl
      · exact ite_no h1 <| ite_no h2 <| ite_yes (by omega) rfl
  · unfold ref10_Has
    exact ite_no (by omega) <| ite_no (by omega) <| ite_no (by omega) <| ite_no (by omega) <| ite_no (by omega) <| ite_no (by omega) <| ite_no (by omega) <| ite_no (by omega) <| ite_no (by omega) <| ite_no (by omega) <| ite_no (by omega) <| ite_no (by omega) <| ite_no (by omega) <| ite_no (by omega) <| ite_no (by omega) <| ite_no (by omega) <| ite_no (by omega) <| ite_no (by omega) <| ite_no (by omega) <| ite_no (by omega) <| rfl
  · unfold ref10_Encode
    exact bind_to hi <| ite_no (fun h => h rfl) <| ite_no (by omega) <| ite_no (by omega) <| ite_no (by omega) <| ite_no (by omega) <| ite_no (by omega) <| ite_no (by omega) <| ite_no (by omega) <| ite_no (by omega) <| ite_no (by omega) <| ite_no (by omega) <| ite_no (by omega) <| ite_no (by omega) <| ite_no (by omega) <| ite_no (by omega) <| ite_no (by omega) <| ite_no (by omega) <| ite_no (by omega) <| ite_no (by omega) <| ite_no (by omega) <| ite_no (by omega) <| rfl
theorem kd_1 {N : Nat} : ∃ nm s0 s1 s2 h0 h1 h2, Kd 1 N nm s0 s1 s2 h0 h1 h2 true 1 8 0 := by
  refine ⟨_, _, _, _, _, _, _, rfl, rfl, by decide +kernel, by omega, by omega, by omega, rfl, rfl, rfl, fun _ => rfl, fun _ => rfl, fun _ => rfl, fun A B C hi => ?_⟩
  have e : ref10_Encode 1 A B C N = some (.r1 ([(1 : Int), ((IntKind.u64.wrap A) % (256 : Int)), (((((((((IntKind.u64.wrap B) / (256 : Int)) / (256 : Int)) / (256 : Int)) / (256 : Int)) / (256 : Int)) / (256 : Int)) / (256 : Int)) % (256 : Int)), ((((((((IntKind.u64.wrap B) / (256 : Int)) / (256 : Int)) / (256 : Int)) / (256 : Int)) / (256 : Int)) / (256 : Int)) % (256 : Int)), (((((((IntKind.u64.wrap B) / (256 : Int)) / (256 : Int)) / (256 : Int)) / (256 : Int)) / (256 : Int)) % (256 : Int)), ((((((IntKind.u64.wrap B) / (256 : Int)) / (256 : Int)) / (256 : Int)) / (256 : Int)) % (256 : Int)), (((((IntKind.u64.wrap B) / (256 : Int)) / (256 : Int)) / (256 : Int)) % (256 : Int)), ((((IntKind.u64.wrap B) / (256 : Int)) / (256 : Int)) % (256 : Int)), (((IntKind.u64.wrap B) / (256 : Int)) % (256 : Int)), ((IntKind.u64.wrap B) % (256 : Int))] : List Int)) := by
    unfold ref10_Encode
    rw [hi]
    exact rfl
  rw [e]
  simp only [bytesI, by1, by2, by3, by4, by5, by6, by7, by8, List.cons_append, List.nil_append, List.append_nil, show IntKind.u8.wrap (1 : Int) = 1 from (u8_mod 1).trans (by decide)]
theorem kd_2 {N : Nat} : ∃ nm s0 s1 s2 h0 h1 h2, Kd 2 N nm s0 s1 s2 h0 h1 h2 true 1 0 0 := by
  refine ⟨_, _, _, _, _, _, _, rfl, rfl, by decide +kernel, by omega, by omega, by omega, rfl, rfl, rfl, fun _ => rfl, fun _ => rfl, fun _ => rfl, fun A B C hi => ?_⟩
  have e : ref10_Encode 2 A B C N = some (.r1 ([(2 : Int), ((IntKind.u64.wrap A) % (256 : Int))] : List Int)) := by
    unfold ref10_Encode
    rw [hi]
    exact rfl
  rw [e]
  simp only [bytesI, by1, by2, by3, by4, by5, by6, by7, by8, List.cons_append, List.nil_append, List.append_nil, show IntKind.u8.wrap (2 : Int) = 2 from (u8_mod 2).trans (by decide)]
theorem kd_3 {N : Nat} : ∃ nm s0 s1 s2 h0 h1 h2, Kd 3 N nm s0 s1 s2 h0 h1 h2 true 1 1 0 := by
  refine ⟨_, _, _, _, _, _, _, rfl, rfl, by decide +kernel, by omega, by omega, by omega, rfl, rfl, rfl, fun _ => rfl, fun _ => rfl, fun _ => rfl, fun A B C hi => ?_⟩
  have e : ref10_Encode 3 A B C N = some (.r1 ([(3 : Int), ((IntKind.u64.wrap A) % (256 : Int)), ((IntKind.u64.wrap B) % (256 : Int))] : List Int)) := by
    unfold ref10_Encode
    rw [hi]
    exact rfl
  rw [e]
  simp only [bytesI, by1, by2, by3, by4, by5, by6, by7, by8, List.cons_append, List.nil_append, List.append_nil, show IntKind.u8.wrap (3 : Int) = 3 from (u8_mod 3).trans (by decide)]
theorem kd_4 {N : Nat} : ∃ nm s0 s1 s2 h0 h1 h2, Kd 4 N nm s0 s1 s2 h0 h1 h2 true 1 1 1 := by
  refine ⟨_, _, _, _, _, _, _, rfl, rfl, by decide +kernel, by omega, by omega, by omega, rfl, rfl, rfl, fun _ => rfl, fun _ => rfl, fun _ => rfl, fun A B C hi => ?_⟩
  have e : ref10_Encode 4 A B C N = some (.r1 ([(4 : Int), ((IntKind.u64.wrap A) % (256 : Int)), ((IntKind.u64.wrap B) % (256 : Int)), ((IntKind.u64.wrap C) % (256 : Int))] : List Int)) := by
    unfold ref10_Encode
    rw [hi]
    exact rfl
  rw [e]
  simp only [bytesI, by1, by2, by3, by4, by5, by6, by7, by8, List.cons_append, List.nil_append, List.append_nil, show IntKind.u8.wrap (4 : Int) = 4 from (u8_mod 4).trans (by decide)]
theorem kd_5 {N : Nat} : ∃ nm s0 s1 s2 h0 h1 h2, Kd 5 N nm s0 s1 s2 h0 h1 h2 true 1 1 1 := by
  refine ⟨_, _, _, _, _, _, _, rfl, rfl, by decide +kernel, by omega, by omega, by omega, rfl, rfl, rfl, fun _ => rfl, fun _ => rfl, fun _ => rfl, fun A B C hi => ?_⟩
  have e : ref10_Encode 5 A B C N = some (.r1 ([(5 : Int), ((IntKind.u64.wrap A) % (256 : Int)), ((IntKind.u64.wrap B) % (256 : Int)), ((IntKind.u64.wrap C) % (256 : Int))] : List Int)) := by
    unfold ref10_Encode
    rw [hi]
    exact rfl
  rw [e]
  simp only [bytesI, by1, by2, by3, by4, by5, by6, by7, by8, List.cons_append, List.nil_append, List.append_nil, show IntKind.u8.wrap (5 : Int) = 5 from (u8_mod 5).trans (by decide)]
theorem kd_6 {N : Nat} : ∃ nm s0 s1 s2 h0 h1 h2, Kd 6 N nm s0 s1 s2 h0 h1 h2 true 1 1 1 := by
  refine ⟨_, _, _, _, _, _, _, rfl, rfl, by decide +kernel, by omega, by omega, by omega, rfl, rfl, rfl, fun _ => rfl, fun _ => rfl, fun _ => rfl, fun A B C hi => ?_⟩
  have e : ref10_Encode 6 A B C N = some (.r1 ([(6 : Int), ((IntKind.u64.wrap A) % (256 : Int)), ((IntKind.u64.wrap B) % (256 : Int)), ((IntKind.u64.wrap C) % (256 : Int))] : List Int)) := by
    unfold ref10_Encode
    rw [hi]
    exact rfl
  rw [e]
  simp only [bytesI, by1, by2, by3, by4, by5, by6, by7, by8, List.cons_append, List.nil_append, List.append_nil, show IntKind.u8.wrap (6 : Int) = 6 from (u8_mod 6).trans (by decide)]
theorem kd_7 {N : Nat} : ∃ nm s0 s1 s2 h0 h1 h2, Kd 7 N nm s0 s1 s2 h0 h1 h2 true 1 1 1 := by
  refine ⟨_, _, _, _, _, _, _, rfl, rfl, by decide +kernel, by omega, by omega, by omega, rfl, rfl, rfl, fun _ => rfl, fun _ => rfl, fun _ => rfl, fun A B C hi => ?_⟩
  have e : ref10_Encode 7 A B C N = some (.r1 ([(7 : Int), ((IntKind.u64.wrap A) % (256 : Int)), ((IntKind.u64.wrap B) % (256 : Int)), ((IntKind.u64.wrap C) % (256 : Int))] : List Int)) := by
    unfold ref10_Encode
    rw [hi]
    exact rfl
  rw [e]
  simp only [bytesI, by1, by2, by3, by4, by5, by6, by7, by8, List.cons_append, List.nil_append, List.append_nil, show IntKind.u8.wrap (7 : Int) = 7 from (u8_mod 7).trans (by decide)]
theorem kd_8 {N : Nat} : ∃ nm s0 s1 s2 h0 h1 h2, Kd 8 N nm s0 s1 s2 h0 h1 h2 true 2 0 0 := by
  refine ⟨_, _, _, _, _, _, _, rfl, rfl, by decide +kernel, by omega, by omega, by omega, rfl, rfl, rfl, fun _ => rfl, fun _ => rfl, fun _ => rfl, fun A B C hi => ?_⟩
  have e : ref10_Encode 8 A B C N = some (.r1 ([(8 : Int), (((IntKind.u64.wrap A) / (256 : Int)) % (256 : Int)), ((IntKind.u64.wrap A) % (256 : Int))] : List Int)) := by
    unfold ref10_Encode
    rw [hi]
    exact rfl
  rw [e]
  simp only [bytesI, by1, by2, by3, by4, by5, by6, by7, by8, List.cons_append, List.nil_append, List.append_nil, show IntKind.u8.wrap (8 : Int) = 8 from (u8_mod 8).trans (by decide)]
theorem kd_9 {N : Nat} : ∃ nm s0 s1 s2 h0 h1 h2, Kd 9 N nm s0 s1 s2 h0 h1 h2 true 1 2 0 := by
  refine ⟨_, _, _, _, _, _, _, rfl, rfl, by decide +kernel, by omega, by omega, by omega, rfl, rfl, rfl, fun _ => rfl, fun _ => rfl, fun _ => rfl, fun A B C hi => ?_⟩
  have e : ref10_Encode 9 A B C N = some (.r1 ([(9 : Int), ((IntKind.u64.wrap A) % (256 : Int)), (((IntKind.u64.wrap B) / (256 : Int)) % (256 : Int)), ((IntKind.u64.wrap B) % (256 : Int))] : List Int)) := by
    unfold ref10_Encode
    rw [hi]
    exact rfl
  rw [e]
  simp only [bytesI, by1, by2, by3, by4, by5, by6, by7, by8, List.cons_append, List.nil_append, List.append_nil, show IntKind.u8.wrap (9 : Int) = 9 from (u8_mod 9).trans (by decide)]
theorem kd_10 {N : Nat} : ∃ nm s0 s1 s2 h0 h1 h2, Kd 10 N nm s0 s1 s2 h0 h1 h2 true 1 0 0 := by
  refine ⟨_, _, _, _, _, _, _, rfl, rfl, by decide +kernel, by omega, by omega, by omega, rfl, rfl, rfl, fun _ => rfl, fun _ => rfl, fun _ => rfl, fun A B C hi => ?_⟩
  have e : ref10_Encode 10 A B C N = some (.r1 ([(10 : Int), ((IntKind.u64.wrap A) % (256 : Int))] : List Int)) := by
    unfold ref10_Encode
    rw [hi]
    exact rfl
  rw [e]
  simp only [bytesI, by1, by2, by3, by4, by5, by6, by7, by8, List.cons_append, List.nil_append, List.append_nil, show IntKind.u8.wrap (10 : Int) = 10 from (u8_mod 10).trans (by decide)]
theorem kd_11 {N : Nat} : ∃ nm s0 s1 s2 h0 h1 h2, Kd 11 N nm s0 s1 s2 h0 h1 h2 true 1 1 3 := by
  refine ⟨_, _, _, _, _, _, _, rfl, rfl, by decide +kernel, by omega, by omega, by omega, rfl, rfl, rfl, fun _ => rfl, fun _ => rfl, fun _ => rfl, fun A B C hi => ?_⟩
  have e : ref10_Encode 11 A B C N = some (.r1 ([(11 : Int), ((IntKind.u64.wrap A) % (256 : Int)), ((IntKind.u64.wrap B) % (256 : Int)), ((((IntKind.u64.wrap C) / (256 : Int)) / (256 : Int)) % (256 : Int)), (((IntKind.u64.wrap C) / (256 : Int)) % (256 : Int)), ((IntKind.u64.wrap C) % (256 : Int))] : List Int)) := by
    unfold ref10_Encode
    rw [hi]
    exact rfl
  rw [e]
  simp only [bytesI, by1, by2, by3, by4, by5, by6, by7, by8, List.cons_append, List.nil_append, List.append_nil, show IntKind.u8.wrap (11 : Int) = 11 from (u8_mod 11).trans (by decide)]
theorem kd_12 {N : Nat} : ∃ nm s0 s1 s2 h0 h1 h2, Kd 12 N nm s0 s1 s2 h0 h1 h2 true 1 0 0 := by
  refine ⟨_, _, _, _, _, _, _, rfl, rfl, by decide +kernel, by omega, by omega, by omega, rfl, rfl, rfl, fun _ => rfl, fun _ => rfl, fun _ => rfl, fun A B C hi => ?_⟩
  have e : ref10_Encode 12 A B C N = some (.r1 ([(12 : Int), ((IntKind.u64.wrap A) % (256 : Int))] : List Int)) := by
    unfold ref10_Encode
    rw [hi]
    exact rfl
  rw [e]
  simp only [bytesI, by1, by2, by3, by4, by5, by6, by7, by8, List.cons_append, List.nil_append, List.append_nil, show IntKind.u8.wrap (12 : Int) = 12 from (u8_mod 12).trans (by decide)]
theorem kd_13 {N : Nat} : ∃ nm s0 s1 s2 h0 h1 h2, Kd 13 N nm s0 s1 s2 h0 h1 h2 true 1 1 1 := by
  refine ⟨_, _, _, _, _, _, _, rfl, rfl, by decide +kernel, by omega, by omega, by omega, rfl, rfl, rfl, fun _ => rfl, fun _ => rfl, fun _ => rfl, fun A B C hi => ?_⟩
  have e : ref10_Encode 13 A B C N = some (.r1 ([(13 : Int), ((IntKind.u64.wrap A) % (256 : Int)), ((IntKind.u64.wrap B) % (256 : Int)), ((IntKind.u64.wrap C) % (256 : Int))] : List Int)) := by
    unfold ref10_Encode
    rw [hi]
    exact rfl
  rw [e]
  simp only [bytesI, by1, by2, by3, by4, by5, by6, by7, by8, List.cons_append, List.nil_append, List.append_nil, show IntKind.u8.wrap (13 : Int) = 13 from (u8_mod 13).trans (by decide)]
theorem kd_14 {N : Nat} : ∃ nm s0 s1 s2 h0 h1 h2, Kd 14 N nm s0 s1 s2 h0 h1 h2 true 1 1 1 := by
  refine ⟨_, _, _, _, _, _, _, rfl, rfl, by decide +kernel, by omega, by omega, by omega, rfl, rfl, rfl, fun _ => rfl, fun _ => rfl, fun _ => rfl, fun A B C hi => ?_⟩
  have e : ref10_Encode 14 A B C N = some (.r1 ([(14 : Int), ((IntKind.u64.wrap A) % (256 : Int)), ((IntKind.u64.wrap B) % (256 : Int)), ((IntKind.u64.wrap C) % (256 : Int))] : List Int)) := by
    unfold ref10_Encode
    rw [hi]
    exact rfl
  rw [e]
  simp only [bytesI, by1, by2, by3, by4, by5, by6, by7, by8, List.cons_append, List.nil_append, List.append_nil, show IntKind.u8.wrap (14 : Int) = 14 from (u8_mod 14).trans (by decide)]
theorem kd_15 {N : Nat} : ∃ nm s0 s1 s2 h0 h1 h2, Kd 15 N nm s0 s1 s2 h0 h1 h2 true 0 0 0 := by
  refine ⟨_, _, _, _, _, _, _, rfl, rfl, by decide +kernel, by omega, by omega, by omega, rfl, rfl, rfl, fun _ => rfl, fun _ => rfl, fun _ => rfl, fun A B C hi => ?_⟩
  have e : ref10_Encode 15 A B C N = some (.r1 ([(15 : Int)] : List Int)) := by
    unfold ref10_Encode
    rw [hi]
    exact rfl
  rw [e]
  simp only [bytesI, by1, by2, by3, by4, by5, by6, by7, by8, List.cons_append, List.nil_append, List.append_nil, show IntKind.u8.wrap (15 : Int) = 15 from (u8_mod 15).trans (by decide)]
theorem kd_16 {N : Nat} : ∃ nm s0 s1 s2 h0 h1 h2, Kd 16 N nm s0 s1 s2 h0 h1 h2 true 0 0 0 := by
  refine ⟨_, _, _, _, _, _, _, rfl, rfl, by decide +kernel, by omega, by omega, by omega, rfl, rfl, rfl, fun _ => rfl, fun _ => rfl, fun _ => rfl, fun A B C hi => ?_⟩
  have e : ref10_Encode 16 A B C N = some (.r1 ([(16 : Int)] : List Int)) := by
    unfold ref10_Encode
    rw [hi]
    exact rfl
  rw [e]
  simp only [bytesI, by1, by2, by3, by4, by5, by6, by7, by8, List.cons_append, List.nil_append, List.append_nil, show IntKind.u8.wrap (16 : Int) = 16 from (u8_mod 16).trans (by decide)]
theorem kd_17 {N : Nat} : ∃ nm s0 s1 s2 h0 h1 h2, Kd 17 N nm s0 s1 s2 h0 h1 h2 true 0 0 0 := by
  refine ⟨_, _, _, _, _, _, _, rfl, rfl, by decide +kernel, by omega, by omega, by omega, rfl, rfl, rfl, fun _ => rfl, fun _ => rfl, fun _ => rfl, fun A B C hi => ?_⟩
  have e : ref10_Encode 17 A B C N = some (.r1 ([(17 : Int)] : List Int)) := by
    unfold ref10_Encode
    rw [hi]
    exact rfl
  rw [e]
  simp only [bytesI, by1, by2, by3, by4, by5, by6, by7, by8, List.cons_append, List.nil_append, List.append_nil, show IntKind.u8.wrap (17 : Int) = 17 from (u8_mod 17).trans (by decide)]
theorem kd_18 {N : Nat} : ∃ nm s0 s1 s2 h0 h1 h2, Kd 18 N nm s0 s1 s2 h0 h1 h2 true 0 0 0 := by
  refine ⟨_, _, _, _, _, _, _, rfl, rfl, by decide +kernel, by omega, by omega, by omega, rfl, rfl, rfl, fun _ => rfl, fun _ => rfl, fun _ => rfl, fun A B C hi => ?_⟩
  have e : ref10_Encode 18 A B C N = some (.r1 ([(18 : Int)] : List Int)) := by
    unfold ref10_Encode
    rw [hi]
    exact rfl
  rw [e]
  simp only [bytesI, by1, by2, by3, by4, by5, by6, by7, by8, List.cons_append, List.nil_append, List.append_nil, show IntKind.u8.wrap (18 : Int) = 18 from (u8_mod 18).trans (by decide)]
theorem kd_19 {N : Nat} : ∃ nm s0 s1 s2 h0 h1 h2, Kd 19 N nm s0 s1 s2 h0 h1 h2 true 1 0 0 := by
  refine ⟨_, _, _, _, _, _, _, rfl, rfl, by decide +kernel, by omega, by omega, by omega, rfl, rfl, rfl, fun _ => rfl, fun _ => rfl, fun _ => rfl, fun A B C hi => ?_⟩
  have e : ref10_Encode 19 A B C N = some (.r1 ([(19 : Int), ((IntKind.u64.wrap A) % (256 : Int))] : List Int)) := by
    unfold ref10_Encode
    rw [hi]
    exact rfl
  rw [e]
  simp only [bytesI, by1, by2, by3, by4, by5, by6, by7, by8, List.cons_append, List.nil_append, List.append_nil, show IntKind.u8.wrap (19 : Int) = 19 from (u8_mod 19).trans (by decide)]
theorem kd_20 {N : Nat} : ∃ nm s0 s1 s2 h0 h1 h2, Kd 20 N nm s0 s1 s2 h0 h1 h2 true 0 0 0 := by
  refine ⟨_, _, _, _, _, _, _, rfl, rfl, by decide +kernel, by omega, by omega, by omega, rfl, rfl, rfl, fun _ => rfl, fun _ => rfl, fun _ => rfl, fun A B C hi => ?_⟩
  have e : ref10_Encode 20 A B C N = some (.r1 ([(20 : Int)] : List Int)) := by
    unfold ref10_Encode
    rw [hi]
    exact rfl
  rw [e]
  simp only [bytesI, by1, by2, by3, by4, by5, by6, by7, by8, List.cons_append, List.nil_append, List.append_nil, show IntKind.u8.wrap (20 : Int) = 20 from (u8_mod 20).trans (by decide)]
theorem kd (op : Int) (N : Nat) : ∃ nm s0 s1 s2 h0 h1 h2 b w0 w1 w2, Kd op N nm s0 s1 s2 h0 h1 h2 b w0 w1 w2 := by
  by_cases h1 : op < 0 ∨ 21 ≤ op ∨ op = 0
  · exact ⟨_, _, _, _, _, _, _, _, _, _, _, kd_no h1⟩
  · have h : op = 1 ∨ op = 2 ∨ op = 3 ∨ op = 4 ∨ op = 5 ∨ op = 6 ∨ op = 7 ∨ op = 8 ∨ op = 9 ∨ op = 10 ∨ op = 11 ∨ op = 12 ∨ op = 13 ∨ op = 14 ∨ op = 15 ∨ op = 16 ∨ op = 17 ∨ op = 18 ∨ op = 19 ∨ op = 20 := by omega
    rcases h with rfl | rfl | rfl | rfl | rfl | rfl | rfl | rfl | rfl | rfl | rfl | rfl | rfl | rfl | rfl | rfl | rfl | rfl | rfl | rfl
    · obtain ⟨_, _, _, _, _, _, _, h⟩ := kd_1 (N := N); exact ⟨_, _, _, _, _, _, _, _, _, _, _, h⟩
    · obtain ⟨_, _, _, _, _, _, _, h⟩ := kd_2 (N := N); exact ⟨_, _, _, _, _, _, _, _, _, _, _, h⟩
    · obtain ⟨_, _, _, _, _, _, _, h⟩ := kd_3 (N := N); exact ⟨_, _, _, _, _, _, _, _, _, _, _, h⟩
    · obtain ⟨_, _, _, _, _, _, _, h⟩ := kd_4 (N := N); exact ⟨_, _, _, _, _, _, _, _, _, _, _, h⟩
    · obtain ⟨_, _, _, _, _, _, _, h⟩ := kd_5 (N := N); exact ⟨_, _, _, _, _, _, _, _, _, _, _, h⟩
    · obtain ⟨_, _, _, _, _, _, _, h⟩ := kd_6 (N := N); exact ⟨_, _, _, _, _, _, _, _, _, _, _, h⟩
    · obtain ⟨_, _, _, _, _, _, _, h⟩ := kd_7 (N := N); exact ⟨_, _, _, _, _, _, _, _, _, _, _, h⟩
    · obtain ⟨_, _, _, _, _, _, _, h⟩ := kd_8 (N := N); exact ⟨_, _, _, _, _, _, _, _, _, _, _, h⟩
    · obtain ⟨_, _, _, _, _, _, _, h⟩ := kd_9 (N := N); exact ⟨_, _, _, _, _, _, _, _, _, _, _, h⟩
    · obtain ⟨_, _, _, _, _, _, _, h⟩ := kd_10 (N := N); exact ⟨_, _, _, _, _, _, _, _, _, _, _, h⟩
    · obtain ⟨_, _, _, _, _, _, _, h⟩ := kd_11 (N := N); exact ⟨_, _, _, _, _, _, _, _, _, _, _, h⟩
    · obtain ⟨_, _, _, _, _, _, _, h⟩ := kd_12 (N := N); exact ⟨_, _, _, _, _, _, _, _, _, _, _, h⟩
    · obtain ⟨_, _, _, _, _, _, _, h⟩ := kd_13 (N := N); exact ⟨_, _, _, _, _, _, _, _, _, _, _, h⟩
    · obtain ⟨_, _, _, _, _, _, _, h⟩ := kd_14 (N := N); exact ⟨_, _, _, _, _, _, _, _, _, _, _, h⟩
    · obtain ⟨_, _, _, _, _, _, _, h⟩ := kd_15 (N := N); exact ⟨_, _, _, _, _, _, _, _, _, _, _, h⟩
    · obtain ⟨_, _, _, _, _, _, _, h⟩ := kd_16 (N := N); exact ⟨_, _, _, _, _, _, _, _, _, _, _, h⟩
    · obtain ⟨_, _, _, _, _, _, _, h⟩ := kd_17 (N := N); exact ⟨_, _, _, _, _, _, _, _, _, _, _, h⟩
    · obtain ⟨_, _, _, _, _, _, _, h⟩ := kd_18 (N := N); exact ⟨_, _, _, _, _, _, _, _, _, _, _, h⟩
    · obtain ⟨_, _, _, _, _, _, _, h⟩ := kd_19 (N := N); exact ⟨_, _, _, _, _, _, _, _, _, _, _, h⟩
    · obtain ⟨_, _, _, _, _, _, _, h⟩ := kd_20 (N := N); exact ⟨_, _, _, _, _, _, _, _, _, _, _, h⟩
section
variable {op A B C s0 s1 s2 : Int} {N : Nat}
theorem lp0 (k : Nat) : ∀ (b : List Int) (v : Int) (g : Nat), v = 8 * (k : Int) - 8 → k ≤ 8 → b.length + k ≤ 1000 → iter (instr_EncodeStep op A B C N) (g + k + 1) (.h2m0 b v s0 s1 s2) = iter (instr_EncodeStep op A B C N) g (.h1m1 (b ++ bytesI k A) s0 s1 s2) := by
  induction k with
  | zero =>
    intro b v g hv hk hb
    refine (iter_next (y := .h1m1 b s0 s1 s2) ?_).trans ?_
    · show instr_Encode_h2m0 op A B C N b v s0 s1 s2 = _
      unfold instr_Encode_h2m0
      exact ite_no (by omega) rfl
    · rw [show b ++ bytesI 0 A = b from List.append_nil b]
  | succ k ih =>
    intro b v g hv hk hb
    refine (iter_next (y := .h2m0 (b ++ [IntKind.u8.wrap (IntKind.u64.wrap A / (2 ^ (8 * k) : Int))]) (v - 8) s0 s1 s2) ?_).trans ?_
    · show instr_Encode_h2m0 op A B C N b v s0 s1 s2 = _
      unfold instr_Encode_h2m0
      refine ite_yes (by omega) (ite_yes (by omega) (ite_yes (by omega) ?_))
      rw [show v.toNat = 8 * k by omega]
    · show iter _ (g + k + 1) _ = _
      rw [ih _ _ _ (by omega) (by omega) (by simp only [List.length_append, List.length_cons, List.length_nil]; omega)]
      simp only [bytesI, List.append_assoc, List.cons_append, List.nil_append]
theorem lp1 (k : Nat) : ∀ (b : List Int) (v : Int) (g : Nat), v = 8 * (k : Int) - 8 → k ≤ 8 → b.length + k ≤ 1000 → iter (instr_EncodeStep op A B C N) (g + k + 1) (.h2m1 b v s0 s1 s2) = iter (instr_EncodeStep op A B C N) g (.h1m2 (b ++ bytesI k B) s0 s1 s2) := by
  induction k with
  | zero =>
    intro b v g hv hk hb
    refine (iter_next (y := .h1m2 b s0 s1 s2) ?_).trans ?_
    · show instr_Encode_h2m1 op A B C N b v s0 s1 s2 = _
      unfold instr_Encode_h2m1
      exact ite_no (by omega) rfl
    · rw [show b ++ bytesI 0 B = b from List.append_nil b]
  | succ k ih =>
    intro b v g hv hk hb
    refine (iter_next (y := .h2m1 (b ++ [IntKind.u8.wrap (IntKind.u64.wrap B / (2 ^ (8 * k) : Int))]) (v - 8) s0 s1 s2) ?_).trans ?_
    · show instr_Encode_h2m1 op A B C N b v s0 s1 s2 = _
      unfold instr_Encode_h2m1
      refine ite_yes (by omega) (ite_yes (by omega) (ite_yes (by omega) ?_))
      rw [show v.toNat = 8 * k by omega]
    · show iter _ (g + k + 1) _ = _
      rw [ih _ _ _ (by omega) (by omega) (by simp only [List.length_append, List.length_cons, List.length_nil]; omega)]
      simp only [bytesI, List.append_assoc, List.cons_append, List.nil_append]
theorem lp2 (k : Nat) : ∀ (b : List Int) (v : Int) (g : Nat), v = 8 * (k : Int) - 8 → k ≤ 8 → b.length + k ≤ 1000 → iter (instr_EncodeStep op A B C N) (g + k + 1) (.h2m2 b v s0 s1 s2) = iter (instr_EncodeStep op A B C N) g (.h1m3 (b ++ bytesI k C) s0 s1 s2) := by
  induction k with
  | zero =>
    intro b v g hv hk hb
    refine (iter_next (y := .h1m3 b s0 s1 s2) ?_).trans ?_
    · show instr_Encode_h2m2 op A B C N b v s0 s1 s2 = _
      unfold instr_Encode_h2m2
      exact ite_no (by omega) rfl
    · rw [show b ++ bytesI 0 C = b from List.append_nil b]
  | succ k ih =>
    intro b v g hv hk hb
    refine (iter_next (y := .h2m2 (b ++ [IntKind.u8.wrap (IntKind.u64.wrap C / (2 ^ (8 * k) : Int))]) (v - 8) s0 s1 s2) ?_).trans ?_
    · show instr_Encode_h2m2 op A B C N b v s0 s1 s2 = _
      unfold instr_Encode_h2m2
      refine ite_yes (by omega) (ite_yes (by omega) (ite_yes (by omega) ?_))
      rw [show v.toNat = 8 * k by omega]
    · show iter _ (g + k + 1) _ = _
      rw [ih _ _ _ (by omega) (by omega) (by simp only [List.length_append, List.length_cons, List.length_nil]; omega)]
      simp only [bytesI, List.append_assoc, List.cons_append, List.nil_append]
theorem enc_run {w0 w1 w2 : Nat} (hN : 100 ≤ N) (l0 : w0 ≤ 8) (l1 : w1 ≤ 8) (l2 : w2 ≤ 8) (a0 : instr_shape_width s0 N = some (.r0 (w0 : Int))) (a1 : instr_shape_width s1 N = some (.r0 (w1 : Int))) (a2 : instr_shape_width s2 N = some (.r0 (w2 : Int))) :
    iter (instr_EncodeStep op A B C N) N (.h1m0 s0 s1 s2) = some (.r1 (IntKind.u8.wrap op :: (bytesI w0 A ++ bytesI w1 B ++ bytesI w2 C))) := by
  have wv : ∀ w : Nat, w ≤ 8 → IntKind.i64.wrap ((8 : Int) * (IntKind.i64.wrap ((w : Int) - (1 : Int)))) = 8 * (w : Int) - 8 := fun w hw => by
    rw [w64 (x := (w : Int) - 1) (by omega) (by omega), w64 (by omega) (by omega)]; omega
  have bl : ∀ k u, (bytesI k u).length = k := fun k u => by
    induction k with
    | zero => rfl
    | succ k ih => simp [bytesI, ih]
  refine iter_up (n := ((((((0 + 1) + w2 + 1) + 1) + w1 + 1) + 1) + w0 + 1) + 1) (by omega) ?_
  refine (iter_next (y := .h2m0 [IntKind.u8.wrap op] (8 * (w0 : Int) - 8) s0 s1 s2) ?_).trans ((lp0 w0 _ _ _ rfl l0 (by simp; omega)).trans ((iter_next (y := .h2m1 ([IntKind.u8.wrap op] ++ bytesI w0 A) (8 * (w1 : Int) - 8) s0 s1 s2) ?_).trans ((lp1 w1 _ _ _ rfl l1 (by simp [bl]; omega)).trans ((iter_next (y := .h2m2 ([IntKind.u8.wrap op] ++ bytesI w0 A ++ bytesI w1 B) (8 * (w2 : Int) - 8) s0 s1 s2) ?_).trans ((lp2 w2 _ _ _ rfl l2 (by simp [bl]; omega)).trans (iter_done ?_))))))
  · show instr_Encode_h1m0 op A B C N s0 s1 s2 = _
    unfold instr_Encode_h1m0
    refine bind_to a0 ?_
    show some (Sum.inl (instr_EncodeX.h2m0 _ _ _ _ _)) = _
    rw [wv w0 l0]
  · show instr_Encode_h1m1 op A B C N _ s0 s1 s2 = _
    unfold instr_Encode_h1m1
    refine bind_to a1 ?_
    show some (Sum.inl (instr_EncodeX.h2m1 _ _ _ _ _)) = _
    rw [wv w1 l1]
  · show instr_Encode_h1m2 op A B C N _ s0 s1 s2 = _
    unfold instr_Encode_h1m2
    refine bind_to a2 ?_
    show some (Sum.inl (instr_EncodeX.h2m2 _ _ _ _ _)) = _
    rw [wv w2 l2]
  · show some (Sum.inr (instr_EncodeR.r1 _)) = _
    simp only [List.cons_append, List.nil_append, List.append_assoc]
end
theorem enc_is (op A B C : Int) {N : Nat} (hN : 2000 ≤ N) : (instr_Encode op A B C N = some (.r0 100) ∧ ref10_Encode op A B C N = some .r0) ∨ ∃ L, instr_Encode op A B C N = some (.r1 L) ∧ ref10_Encode op A B C N = some (.r1 L) := by
  obtain ⟨b, h1, h2, _⟩ := check_is op A B C N (by omega)
  cases b with
  | false =>
    refine .inl ⟨goM_out (bind_to h1 <| ite_yes (by decide) rfl), ?_⟩
    unfold ref10_Encode
    exact bind_to h2 <| ite_yes (by decide) rfl
  | true =>
    obtain ⟨nm, s0, s1, s2, t0, t1, t2, b, w0, w1, w2, K⟩ := kd op N
    refine .inr ⟨_, (goM_in (x := .h1m0 s0 s1 s2) (bind_to h1 <| ite_no (by decide) <| bind_to K.k rfl)).trans (enc_run (by omega) K.l0 K.l1 K.l2 K.a0 K.a1 K.a2), K.enc A B C h2⟩
section
variable {L : List Int} {n c N w0 w1 w2 : Nat} {s0 s1 s2 : Int}
theorem d0 {z : Int} (hw : instr_shape_width s0 N = some (.r0 (w0 : Int))) (h : w0 ≤ n - 1) (hc : n ≤ c) (hj : instr_join L 1 w0 (c - 1) N = some (.r0 z)) :
    instr_DecodeStep L n c N (.h1m0 s0 s1 s2) = some (.inl (.h1m1 (w0 + 1) (n - 1 - w0) (c - 1 - w0) s0 s1 s2 z)) := by
  show instr_Decode_h1m0 L n c N s0 s1 s2 = _
  unfold instr_Decode_h1m0
  exact bind_to hw <| ite_no (by omega) <| bind_to hw <| ite_yes (by omega) <| ite_yes (by omega) <| bind_to hj <| bind_to hw <| ite_yes (by omega) <| ite_yes (by omega) <| ite_yes (by omega) rfl
theorem d0s (hw : instr_shape_width s0 N = some (.r0 (w0 : Int))) (h : n - 1 < w0) : instr_DecodeStep L n c N (.h1m0 s0 s1 s2) = some (.inr (.r0 6)) := by
  show instr_Decode_h1m0 L n c N s0 s1 s2 = _
  unfold instr_Decode_h1m0
  exact bind_to hw <| ite_yes (by omega) rfl
theorem d1 {v4 v5 v6 : Nat} {x z : Int} (hw : instr_shape_width s1 N = some (.r0 (w1 : Int))) (h : w1 ≤ v5) (hc : v5 ≤ v6) (hj : instr_join L v4 w1 v6 N = some (.r0 z)) :
    instr_DecodeStep L n c N (.h1m1 v4 v5 v6 s0 s1 s2 x) = some (.inl (.h1m2 (w1 + v4) (v5 - w1) (v6 - w1) s0 s1 s2 x z)) := by
  show instr_Decode_h1m1 L n c N v4 v5 v6 s0 s1 s2 x = _
  unfold instr_Decode_h1m1
  exact bind_to hw <| ite_no (by omega) <| bind_to hw <| ite_yes (by omega) <| ite_yes (by omega) <| bind_to hj <| bind_to hw <| ite_yes (by omega) <| ite_yes (by omega) <| ite_yes (by omega) rfl
theorem d1s {v4 v5 v6 : Nat} {x : Int} (hw : instr_shape_width s1 N = some (.r0 (w1 : Int))) (h : v5 < w1) : instr_DecodeStep L n c N (.h1m1 v4 v5 v6 s0 s1 s2 x) = some (.inr (.r0 6)) := by
  show instr_Decode_h1m1 L n c N v4 v5 v6 s0 s1 s2 x = _
  unfold instr_Decode_h1m1
  exact bind_to hw <| ite_yes (by omega) rfl
theorem d2 {v4 v5 v6 : Nat} {x y z : Int} (hw : instr_shape_width s2 N = some (.r0 (w2 : Int))) (h : w2 ≤ v5) (hc : v5 ≤ v6) (hj : instr_join L v4 w2 v6 N = some (.r0 z)) :
    instr_DecodeStep L n c N (.h1m2 v4 v5 v6 s0 s1 s2 x y) = some (.inl (.h1m3 (w2 + v4) (v5 - w2) (v6 - w2) s0 s1 s2 x y z)) := by
  show instr_Decode_h1m2 L n c N v4 v5 v6 s0 s1 s2 x y = _
  unfold instr_Decode_h1m2
  exact bind_to hw <| ite_no (by omega) <| bind_to hw <| ite_yes (by omega) <| ite_yes (by omega) <| bind_to hj <| bind_to hw <| ite_yes (by omega) <| ite_yes (by omega) <| ite_yes (by omega) rfl
theorem d2s {v4 v5 v6 : Nat} {x y : Int} (hw : instr_shape_width s2 N = some (.r0 (w2 : Int))) (h : v5 < w2) : instr_DecodeStep L n c N (.h1m2 v4 v5 v6 s0 s1 s2 x y) = some (.inr (.r0 6)) := by
  show instr_Decode_h1m2 L n c N v4 v5 v6 s0 s1 s2 x y = _
  unfold instr_Decode_h1m2
  exact bind_to hw <| ite_yes (by omega) rfl
/-- What both make of bytes. -/
def SameDec (L : List Int) (n c N : Nat) : Prop :=
  (∃ z, instr_Decode L n c N = some (.r0 z) ∧ ref10_Decode L n c N = some (.r0 z)) ∨ ∃ A B C p q r, instr_Decode L n c N = some (.r1 A B C ((L.drop p).take q)) ∧ ref10_Decode L n c N = some (.r1 A B C p q r) ∧ p + q ≤ L.length
theorem dec_is (hb : ∀ i, i < L.length → 0 ≤ L.getD i 0 ∧ L.getD i 0 ≤ 255) (hn : n ≤ L.length) (h20 : n ≤ 1000) (hc : n ≤ c) (hN : 2000 ≤ N) : SameDec L n c N := by
  by_cases h0 : n = 0
  · refine .inl ⟨6, goM_out (ite_yes (by omega) rfl), ?_⟩
    unfold ref10_Decode
    exact ite_yes (by omega) rfl
  obtain ⟨b1, b2⟩ := hb 0 (by omega)
  obtain ⟨nm, s0, s1, s2, t0, t1, t2, b, w0, w1, w2, K⟩ := kd (L.getD 0 0) N
  have hin : ∀ o, (if strB nm [] = true then some (.inr (.r0 (100 : Int))) else if ((n : Nat) : Int) ≤ ((c : Nat) : Int) then some (.inl (.h1m0 s0 s1 s2)) else none) = o → instr_DecodeIn L n c N = o := fun o ho => by
    unfold instr_DecodeIn
    exact ite_no (by omega) <| ite_yes (by omega) <| ite_yes (by omega) <| ite_yes (by omega) <| bind_to K.k ho
  have hre : ∀ (k : ref10_HasR → Option ref10_DecodeR) o, k (.r0 t0 t1 t2 b) = o → (ref10_Has (L.getD 0 0) N).bind k = o := fun k o ho => bind_to K.h ho
  cases b with
  | false =>
    refine .inl ⟨100, goM_out (hin _ (ite_yes (by rw [K.e]; rfl) rfl)), ?_⟩
    unfold ref10_Decode
    exact ite_no (by omega) <| ite_yes (by omega) <| ite_yes (by omega) <| ite_yes (by omega) <| hre _ _ <| ite_yes (by decide) rfl
  | true =>
    have hI : instr_Decode L n c N = iter (instr_DecodeStep L n c N) N (.h1m0 s0 s1 s2) := goM_in (hin _ (ite_no (by rw [K.e]; decide) <| ite_yes (by omega) rfl))
    obtain ⟨l0, l1, l2⟩ := And.intro K.l0 (And.intro K.l1 K.l2)
    have c0 := K.c0 rfl
    have c1 := K.c1 rfl
    have c2 := K.c2 rfl
    have e0 : IntKind.i64.wrap ((1 : Int) + (w0 : Int)) = ((1 + w0 : Nat) : Int) := by rw [w64 (by omega) (by omega)]; omega
    have e1 : IntKind.i64.wrap ((IntKind.i64.wrap ((1 : Int) + (w0 : Int))) + (w1 : Int)) = ((1 + w0 + w1 : Nat) : Int) := by rw [e0, w64 (by omega) (by omega)]; omega
    have e2 : IntKind.i64.wrap ((IntKind.i64.wrap ((IntKind.i64.wrap ((1 : Int) + (w0 : Int))) + (w1 : Int))) + (w2 : Int)) = ((1 + w0 + w1 + w2 : Nat) : Int) := by rw [e1, w64 (by omega) (by omega)]; omega
    have e1' : IntKind.i64.wrap (((1 + w0 : Nat) : Int) + (w1 : Int)) = ((1 + w0 + w1 : Nat) : Int) := by rw [← e1, e0]
    have e2' : IntKind.i64.wrap (((1 + w0 + w1 : Nat) : Int) + (w2 : Int)) = ((1 + w0 + w1 + w2 : Nat) : Int) := by rw [← e2, e1]
    have hR : ∀ o, (if ((n : Nat) : Int) < ((1 + w0 + w1 + w2 : Nat) : Int) then some (ref10_DecodeR.r0 6) else
        (ref10_get L 1 w0 (c - 1) N).bind fun r => match r with
        | .r0 x => (ref10_get L (1 + w0) w1 (c - (1 + w0)) N).bind fun r => match r with
          | .r0 y => (ref10_get L (1 + w0 + w1) w2 (c - (1 + w0 + w1)) N).bind fun r => match r with
            | .r0 z => (ref10_Is (L.getD 0 0) x y z N).bind fun r => match r with
              | .r0 q => if ¬ (q = true) then some (.r0 100) else some (.r1 x y z (1 + w0 + w1 + w2) (n - (1 + w0 + w1 + w2)) (c - (1 + w0 + w1 + w2)))) = o → ref10_Decode L n c N = o := fun o ho => by
      unfold ref10_Decode
      refine ite_no (by omega) <| ite_yes (by omega) <| ite_yes (by omega) <| ite_yes (by omega) <| hre _ _ <| ite_no (by decide) <| bind_to c0 <| bind_to c0 <| bind_to c1 <| bind_to c2 ?_
      rw [← ho]
      by_cases hs : n < 1 + w0 + w1 + w2
      · rw [if_pos (by omega)]
        exact ite_yes (by rw [e2]; omega) rfl
      · rw [if_neg (by omega)]
        refine ite_no (by rw [e2]; omega) <| ite_yes (by rw [e0]; omega) <| ite_yes (by rw [e0]; omega) ?_
        simp only [e0, e1', e2', Int.toNat_natCast, show 1 + w0 - 1 = w0 by omega, show 1 + w0 + w1 - (1 + w0) = w1 by omega, show 1 + w0 + w1 + w2 - (1 + w0 + w1) = w2 by omega]
        have g0 : ((1 + w0 : Nat) : Int) ≤ ((1 + w0 + w1 : Nat) : Int) := by omega
        have g1 : ((1 + w0 + w1 : Nat) : Int) ≤ ((c : Nat) : Int) := by omega
        have g2 : ((1 + w0 + w1 : Nat) : Int) ≤ ((1 + w0 + w1 + w2 : Nat) : Int) := by omega
        have g3 : ((1 + w0 + w1 + w2 : Nat) : Int) ≤ ((c : Nat) : Int) := by omega
        have g4 : ((n : Nat) : Int) ≤ ((c : Nat) : Int) := by omega
        simp only [g0, g1, g2, g3, g4, if_true]
    by_cases q0 : n - 1 < w0
    · exact .inl ⟨6, hI.trans (iter_up (n := 0 + 1) (by omega) (iter_done (d0s K.a0 q0))), hR _ (ite_yes (by omega) rfl)⟩
    obtain ⟨x, jx, gx⟩ := join_get (n2 := 1) (n3 := w0) (n4 := c - 1) (n5 := c - 1) (N := N) hb (by omega) (by omega) hN
    have S1 := d0 (s1 := s1) (s2 := s2) K.a0 (show w0 ≤ n - 1 by omega) hc jx
    by_cases q1 : n - 1 - w0 < w1
    · exact .inl ⟨6, hI.trans (iter_up (n := 0 + 1 + 1) (by omega) ((iter_next S1).trans (iter_done (d1s K.a1 q1)))), hR _ (ite_yes (by omega) rfl)⟩
    obtain ⟨y, jy, gy⟩ := join_get (n2 := 1 + w0) (n3 := w1) (n4 := c - 1 - w0) (n5 := c - (1 + w0)) (N := N) hb (by omega) (by omega) hN
    have S2 := d1 (n := n) (c := c) (s0 := s0) (s2 := s2) (x := x) (v4 := w0 + 1) (v5 := n - 1 - w0) (v6 := c - 1 - w0) K.a1 (by omega) (by omega) (by rw [Nat.add_comm w0 1]; exact jy)
    by_cases q2 : n - 1 - w0 - w1 < w2
    · exact .inl ⟨6, hI.trans (iter_up (n := 0 + 1 + 1 + 1) (by omega) ((iter_next S1).trans ((iter_next S2).trans (iter_done (d2s K.a2 q2))))), hR _ (ite_yes (by omega) rfl)⟩
    obtain ⟨z, jz, gz⟩ := join_get (n2 := 1 + w0 + w1) (n3 := w2) (n4 := c - 1 - w0 - w1) (n5 := c - (1 + w0 + w1)) (N := N) hb (by omega) (by omega) hN
    have S3 := d2 (n := n) (c := c) (s0 := s0) (s1 := s1) (x := x) (y := y) (v4 := w1 + (w0 + 1)) (v5 := n - 1 - w0 - w1) (v6 := c - 1 - w0 - w1) K.a2 (by omega) (by omega) (by rw [show w1 + (w0 + 1) = 1 + w0 + w1 by omega]; exact jz)
    obtain ⟨b, i1, i2, _⟩ := check_is (L.getD 0 0) x y z N (by omega)
    cases b with
    | false =>
      refine .inl ⟨100, hI.trans (iter_up (n := 0 + 1 + 1 + 1 + 1) (by omega) ((iter_next S1).trans ((iter_next S2).trans ((iter_next S3).trans (iter_done ?_))))), hR _ (ite_no (by omega) <| bind_to gx <| bind_to gy <| bind_to gz <| bind_to i2 <| ite_yes (by decide) rfl)⟩
      show instr_Decode_h1m3 L n c N (w2 + (w1 + (w0 + 1))) (n - 1 - w0 - w1 - w2) (c - 1 - w0 - w1 - w2) s0 s1 s2 x y z = _
      unfold instr_Decode_h1m3
      exact ite_yes (by omega) <| ite_yes (by omega) <| ite_yes (by omega) <| ite_yes (by omega) <| bind_to i1 <| ite_yes (by decide) rfl
    | true =>
      refine .inr ⟨x, y, z, 1 + w0 + w1 + w2, n - (1 + w0 + w1 + w2), _, hI.trans (iter_up (n := 0 + 1 + 1 + 1 + 1) (by omega) ((iter_next S1).trans ((iter_next S2).trans ((iter_next S3).trans (iter_done ?_))))), hR _ (ite_no (by omega) <| bind_to gx <| bind_to gy <| bind_to gz <| bind_to i2 <| ite_no (by decide) rfl), by omega⟩
      show instr_Decode_h1m3 L n c N (w2 + (w1 + (w0 + 1))) (n - 1 - w0 - w1 - w2) (c - 1 - w0 - w1 - w2) s0 s1 s2 x y z = _
      unfold instr_Decode_h1m3
      refine ite_yes (by omega) <| ite_yes (by omega) <| ite_yes (by omega) <| ite_yes (by omega) <| bind_to i1 <| ite_no (by decide) ?_
      by_cases hv : n - 1 - w0 - w1 - w2 = 0
      · refine ite_yes hv ?_
        rw [show n - (1 + w0 + w1 + w2) = 0 by omega, List.take_zero]
      · refine ite_no hv <| ite_yes (by omega) <| ite_yes (by omega) ?_
        rw [show w2 + (w1 + (w0 + 1)) = 1 + w0 + w1 + w2 by omega, show n - 1 - w0 - w1 - w2 = n - (1 + w0 + w1 + w2) by omega]
end
end Ev
end Go.Proofs.Ytikgfmbhfienjaa
