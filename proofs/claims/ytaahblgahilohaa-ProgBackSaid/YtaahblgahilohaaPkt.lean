/- ProgBack: the law's plain functions are true. -/
import Derived.Test.YtaahblgahilohaaPkf
namespace Go.Proofs.Ytaahblgahilohaa
open Go.RowKit
namespace Ev
set_option linter.unusedVariables false
set_option linter.unusedSimpArgs false
theorem progL_byte {k : Nat} {Y : List Int} (hk : k ≤ 512) (hY : ∀ x ∈ Y, 0 ≤ x ∧ x ≤ 255) : ∀ x ∈ progL k Y, 0 ≤ x ∧ x ≤ 255 := by
  intro x hx
  unfold progL at hx
  rcases List.mem_append.1 hx with hx | hx
  · rcases List.mem_append.1 hx with hx | hx
    · exact hdr_byte (by omega) x hx
    · exact hY x hx
  · rw [List.mem_singleton] at hx
    subst hx
    unfold sumP; omega
theorem progL_len (k : Nat) (Y : List Int) : (progL k Y).length = 7 + Y.length := by
  unfold progL hdr; simp only [List.length_append, List.length_cons, List.length_nil]; omega
theorem sS_cons (x : Int) (M : List Int) : sS (x :: M) = x + sS M := by
  show (x :: M).foldl (fun a x => a + x) 0 = _
  rw [List.foldl_cons, fold_add, Int.zero_add]; rfl
theorem sS_set (v : Int) : ∀ (A : List Int) (i : Nat), i < A.length → sS (A.set i v) = sS A - A.getD i 0 + v
  | [], i, h => by cases h
  | a :: A, 0, h => by
    show sS (v :: A) = sS (a :: A) - a + v
    rw [sS_cons, sS_cons]; omega
  | a :: A, i + 1, h => by
    show sS (a :: A.set i v) = sS (a :: A) - A.getD i 0 + v
    rw [sS_cons, sS_cons, sS_set v A i (by simpa using h)]; omega
theorem sum_turn {A : List Int} {i : Nat} {v : Int} (hi : i < A.length) (h0 : 0 ≤ v ∧ v ≤ 255) (h1 : 0 ≤ A.getD i 0 ∧ A.getD i 0 ≤ 255) (h : v ≠ A.getD i 0) : sumP (A.set i v) ≠ sumP A := by
  unfold sumP; rw [sS_set v A i hi]; omega
theorem turn_ne {a b : Int} (a0 : 0 ≤ a) (a1 : a ≤ 255) (b0 : 0 ≤ b) (b1 : b ≤ 255) (hb : ¬ b = 0) : (0 ≤ IntKind.u8.wrap (((BitVec.ofInt IntKind.u8.bits a ^^^ BitVec.ofInt IntKind.u8.bits b).toNat : Nat) : Int) ∧ IntKind.u8.wrap (((BitVec.ofInt IntKind.u8.bits a ^^^ BitVec.ofInt IntKind.u8.bits b).toNat : Nat) : Int) ≤ 255) ∧ IntKind.u8.wrap (((BitVec.ofInt IntKind.u8.bits a ^^^ BitVec.ofInt IntKind.u8.bits b).toNat : Nat) : Int) ≠ a := by
  rw [u8_mod]
  have lt : (BitVec.ofInt IntKind.u8.bits a ^^^ BitVec.ofInt IntKind.u8.bits b).toNat < 256 := (BitVec.ofInt IntKind.u8.bits a ^^^ BitVec.ofInt IntKind.u8.bits b).isLt
  refine ⟨by omega, fun h => ?_⟩
  have ea : (BitVec.ofInt IntKind.u8.bits a).toNat = (a % (256 : Int)).toNat := BitVec.toNat_ofInt _
  have eb : (BitVec.ofInt IntKind.u8.bits b).toNat = (b % (256 : Int)).toNat := BitVec.toNat_ofInt _
  have h2 : (BitVec.ofInt IntKind.u8.bits a ^^^ BitVec.ofInt IntKind.u8.bits b).toNat = (BitVec.ofInt IntKind.u8.bits a).toNat := by rw [ea]; omega
  have h3 := BitVec.eq_of_toNat_eq h2
  have h4 : BitVec.ofInt IntKind.u8.bits a ^^^ (BitVec.ofInt IntKind.u8.bits a ^^^ BitVec.ofInt IntKind.u8.bits b) = BitVec.ofInt IntKind.u8.bits a ^^^ BitVec.ofInt IntKind.u8.bits a := by rw [h3]
  rw [← BitVec.xor_assoc, BitVec.xor_self, BitVec.zero_xor] at h4
  have h5 := congrArg BitVec.toNat h4
  rw [eb, BitVec.toNat_zero] at h5
  omega
theorem byteD {L : List Int} (hb : ∀ x ∈ L, 0 ≤ x ∧ x ≤ 255) : ∀ i, i < L.length → 0 ≤ L.getD i 0 ∧ L.getD i 0 ≤ 255 := getD_byteI hb
/-- What is encoded is decoded. -/
theorem dec_enc {p : List R_iiii} {Y : List Int} {N : Nat} (hp : p.length ≤ 512) (hY : encN N p = some Y) (hN : 50000 ≤ N) : prog_Decode_2 (progL p.length Y) (progL p.length Y).length (progL p.length Y).length N = if p.length = 0 then some (.r0 0) else some (.r1 p) := by
  obtain ⟨y1, y2⟩ := encN_len (by omega) hY
  have hl := progL_len p.length Y
  have hb := byteD (progL_byte hp y2)
  have g4 : (progL p.length Y).getD 4 0 = (p.length : Int) / 256 := rfl
  have g5 : (progL p.length Y).getD 5 0 = (p.length : Int) % 256 := rfl
  have hnn : (p.length : Int) = 256 * (progL p.length Y).getD 4 0 + (progL p.length Y).getD 5 0 := by rw [g4, g5]; omega
  have G := take_good (L := progL p.length Y) (n := (progL p.length Y).length) (by omega) (Nat.le_refl _) hnn hp hY (List.take_length ..)
  rcases prog_dec2 hb (by omega) (by omega) (Nat.le_refl _) (Nat.le_refl (progL p.length Y).length) hN hnn with ⟨q, g, e⟩ | ⟨g, e⟩
  · have hq : p = q := (encN_inj (R := []) (S := []) (by omega) G.2.2.1 g.2.2.1 (G.1.trans g.1.symm) rfl (by rw [List.append_nil]; exact row_byte hb 6 _) (by rw [List.append_nil, List.length_take, List.length_drop]; omega)).1
    rw [e, ← hq]
  · exact absurd G (g p)
/-- A byte that is turned, ahead of the last one, is found. -/
theorem dec_turn {k : Nat} {Y : List Int} {i : Nat} {v : Int} {N : Nat} (hk : k ≤ 512) (hY : ∀ x ∈ Y, 0 ≤ x ∧ x ≤ 255) (hl : Y.length ≤ 5120) (hi : i < (progL k Y).length - 1) (hv : 0 ≤ v ∧ v ≤ 255) (hne : v ≠ (progL k Y).getD i 0) (hN : 50000 ≤ N) : prog_Decode_2 ((progL k Y).set i v) (progL k Y).length (progL k Y).length N = some (.r0 110) := by
  have hL := progL_len k Y
  have hlM : ((progL k Y).set i v).length = (progL k Y).length := List.length_set ..
  have hA : (hdr k ++ Y).length = (progL k Y).length - 1 := by rw [hL, List.length_append]; show 6 + _ = _; omega
  have hb : ∀ x ∈ (progL k Y).set i v, 0 ≤ x ∧ x ≤ 255 := fun x hx => by
    rcases List.mem_or_eq_of_mem_set hx with h | h
    · exact progL_byte hk hY x h
    · rw [h]; exact hv
  have eM : (progL k Y).set i v = (hdr k ++ Y).set i v ++ [sumP (hdr k ++ Y)] := by
    unfold progL; rw [List.set_append_left _ _ (by omega)]
  have hb' := byteD hb
  obtain ⟨b1, b2⟩ := hb' 4 (by omega)
  obtain ⟨b3, b4⟩ := hb' 5 (by omega)
  obtain ⟨nn, hnn⟩ : ∃ nn : Nat, (nn : Int) = 256 * ((progL k Y).set i v).getD 4 0 + ((progL k Y).set i v).getD 5 0 := ⟨(256 * ((progL k Y).set i v).getD 4 0 + ((progL k Y).set i v).getD 5 0).toNat, by omega⟩
  rcases prog_dec2 (n := (progL k Y).length) (c := (progL k Y).length) hb' (by omega) (by omega) (by omega) (Nat.le_refl _) hN hnn with ⟨q, g, e⟩ | ⟨g, e⟩
  · have hs := g.2.2.2.2
    have hlA : ((hdr k ++ Y).set i v).length = (progL k Y).length - 1 := by rw [List.length_set, hA]
    rw [eM, ← hlA, List.take_left' rfl, getD_snoc] at hs
    have hg : (progL k Y).getD i 0 = (hdr k ++ Y).getD i 0 := by
      unfold progL
      unfold List.getD
      rw [List.getElem?_append_left (by omega)]
    refine absurd hs (sum_turn (by omega) hv ?_ (by rw [← hg]; exact hne))
    rw [← hg]
    exact byteD (progL_byte hk hY) i (by omega)
  · exact e
/-- What is decoded, encoded, is what it was. -/
theorem back {L : List Int} {n c N : Nat} (hb : ∀ i, i < L.length → 0 ≤ L.getD i 0 ∧ L.getD i 0 ≤ 255) (h6 : n ≤ 6000) (hn : n ≤ L.length) (hc : n ≤ c) (hN : 50000 ≤ N) : (∃ z, z ≠ 0 ∧ prog_Decode_3 L n c N = some (.r0 z)) ∨ (prog_Decode_3 L n c N = some (.r0 0) ∧ progL 0 [] = L.take n) ∨ ∃ p, prog_Decode_3 L n c N = some (.r1 p) ∧ prog_Encode_3 p N = some (.r1 (L.take n)) := by
  by_cases h7 : n < 7
  · exact .inl ⟨6, by decide, goM_out (ite_yes (by omega) rfl)⟩
  obtain ⟨b1, b2⟩ := hb 4 (by omega)
  obtain ⟨b3, b4⟩ := hb 5 (by omega)
  obtain ⟨nn, hnn⟩ : ∃ nn : Nat, (nn : Int) = 256 * L.getD 4 0 + L.getD 5 0 := ⟨(256 * L.getD 4 0 + L.getD 5 0).toNat, by omega⟩
  rcases prog_dec3 hb (by omega) h6 hn hc hN hnn with ⟨p, g, e⟩ | ⟨g, e⟩
  · have ht := good_take hb (by omega) hn hnn g
    by_cases z : nn = 0
    · subst z
      rw [if_pos rfl] at e
      have g3 := g.2.2.1
      rw [List.eq_nil_of_length_eq_zero g.1] at g3
      exact .inr (.inl ⟨e, by rw [ht, ← Option.some.inj g3]⟩)
    · rw [if_neg z] at e
      refine .inr (.inr ⟨p, e, ?_⟩)
      rw [ht]
      rcases prog_Encode_3_is (L := p) hN with ⟨h, _⟩ | ⟨h, ⟨g', _⟩ | ⟨Y, g', e'⟩⟩
      · have := g.1; have := g.2.1; omega
      · rw [g.2.2.1] at g'; cases g'
      · rw [g.2.2.1] at g'
        rw [e', ← Option.some.inj g', g.1]
  · exact .inl ⟨110, by decide, e⟩
theorem take_getD {L : List R_iiii} {n j : Nat} (h : j < n) : (L.take n).getD j R_iiii.z = L.getD j R_iiii.z := by
  simp [List.getD, List.getElem?_take, h]
theorem same_take {L : List R_iiii} {n c N : Nat} (hn : n ≤ L.length) (h5 : n ≤ 512) (hN : 50000 ≤ N) : ref11_Same_2 L n c (L.take n) N = some (.r0 true) := by
  have hl : (L.take n).length = n := by rw [List.length_take]; omega
  refine (goM_in (show ref11_Same_2In L n c (L.take n) N = some (.inl (.h1m0 0)) from ite_no (by omega) rfl)).trans ?_
  have loop : ∀ d j f, j + d = n → d < f → iter (ref11_Same_2Step L n c (L.take n) N) f (.h1m0 j) = some (.r0 true) := by
    intro d
    induction d with
    | zero =>
      intro j f hj hf
      obtain ⟨f, rfl⟩ : ∃ g, f = g + 1 := ⟨f - 1, by omega⟩
      refine iter_done ?_
      show ref11_Same_2_h1m0 L n c (L.take n) N j = _
      unfold ref11_Same_2_h1m0
      exact ite_no (by omega) rfl
    | succ d ih =>
      intro j f hj hf
      obtain ⟨f, rfl⟩ : ∃ g, f = g + 1 := ⟨f - 1, by omega⟩
      refine (iter_next (y := .h1m0 (j + 1)) ?_).trans (ih (j + 1) f (by omega) (by omega))
      show ref11_Same_2_h1m0 L n c (L.take n) N j = _
      unfold ref11_Same_2_h1m0
      rw [take_getD (by omega)]
      exact ite_yes (by omega) <| ite_yes (by omega) <| ite_yes (by omega) <| ite_no (fun h => h ⟨rfl, rfl, rfl, rfl⟩) <| ite_yes (by omega) rfl
  exact loop n 0 N (by omega) (by omega)
theorem same_none {L : List R_iiii} {c N : Nat} (hN : 1 ≤ N) : ref11_Same L 0 c N = some (.r0 true) :=
  (goM_in (show ref11_SameIn L 0 c N = some (.inl .h1m0) from ite_no (fun h => h rfl) rfl)).trans (iter_up (n := 0 + 1) (by omega) (iter_done (by
    show ref11_Same_h1m0 L 0 c N = _
    unfold ref11_Same_h1m0
    exact ite_no (by omega) rfl)))
theorem same_nils {N : Nat} (hN : 1 ≤ N) : ref11_Same_3 N = some .r0 :=
  (goM_in (show ref11_Same_3In N = some (.inl .h1m0) from rfl)).trans (iter_up (n := 0 + 1) (by omega) (iter_done rfl))
namespace Pk
theorem five {n : Nat} : ((((if (520 : Int) < ((n : Nat) : Int) then (520 : Int) else ((n : Nat) : Int))).toNat - 0)) ≤ n := by split <;> omega
theorem six {n : Nat} : ((((if (6000 : Int) < ((n : Nat) : Int) then (6000 : Int) else ((n : Nat) : Int))).toNat - 0)) ≤ n ∧ ((((if (6000 : Int) < ((n : Nat) : Int) then (6000 : Int) else ((n : Nat) : Int))).toNat - 0)) ≤ 6000 := by constructor <;> split <;> omega
/-- Where a byte is turned, and what becomes of it. -/
theorem turned {k : Nat} {Y : List Int} {a b : Int} {N : Nat} (hk : k ≤ 512) (hY : ∀ x ∈ Y, 0 ≤ x ∧ x ≤ 255) (hl : Y.length ≤ 5120) (a0 : 0 ≤ a) (b0 : 0 ≤ b) (b1 : b ≤ 255) (hb : ¬ b = 0) (hN : 50000 ≤ N) :
    0 ≤ Int.tmod a (((progL k Y).length : Int) - 1) ∧ (Int.tmod a (((progL k Y).length : Int) - 1)).toNat < (progL k Y).length ∧ prog_Decode_2 ((progL k Y).set (Int.tmod a (((progL k Y).length : Int) - 1)).toNat (IntKind.u8.wrap (((BitVec.ofInt IntKind.u8.bits ((progL k Y).getD (Int.tmod a (((progL k Y).length : Int) - 1)).toNat 0) ^^^ BitVec.ofInt IntKind.u8.bits b).toNat : Nat) : Int))) (progL k Y).length (progL k Y).length N = some (.r0 110) := by
  have hL := progL_len k Y
  have h1 := Int.emod_nonneg a (show (((progL k Y).length : Int) - 1) ≠ 0 by omega)
  have h2 := Int.emod_lt_of_pos a (show (0 : Int) < (((progL k Y).length : Int) - 1) by omega)
  rw [Int.tmod_eq_emod_of_nonneg a0]
  obtain ⟨m, hm⟩ : ∃ m : Nat, a % (((progL k Y).length : Int) - 1) = (m : Int) := ⟨(a % (((progL k Y).length : Int) - 1)).toNat, by omega⟩
  rw [hm, Int.toNat_natCast]
  rw [hm] at h2
  obtain ⟨c1, c2⟩ := byteD (progL_byte hk hY) m (by omega)
  obtain ⟨t1, t2⟩ := turn_ne c1 c2 b0 b1 hb
  exact ⟨by omega, by omega, dec_turn hk hY hl (by omega) t1 t2 hN⟩
section
variable {L1 : List R_iiii} {L5 : List Int} {n2 n3 n6 n7 N : Nat} {a8 a9 : Int}
theorem ProgBack_b (hb : ∀ i, i < L5.length → 0 ≤ L5.getD i 0 ∧ L5.getD i 0 ≤ 255) (h6 : n6 ≤ L5.length) (h7 : n6 ≤ n7) (hN : 50000 ≤ N) : law11_ProgBack_h3m0 L1 n2 n3 L5 n6 n7 a8 a9 N = some (.inr (.r0 true)) := by
  unfold law11_ProgBack_h3m0
  obtain ⟨g5, g6⟩ := six (n := n6)
  rcases back (L := L5) (n := ((((if (6000 : Int) < ((n6 : Nat) : Int) then (6000 : Int) else ((n6 : Nat) : Int))).toNat - 0))) (c := n7 - 0) (N := N) hb g6 (by omega) (by omega) hN with ⟨z, z0, e⟩ | ⟨e, q⟩ | ⟨p, e, q⟩
  · exact bind_to e <| ite_yes z0 rfl
  · exact bind_to e <| ite_no (fun h => h rfl) <| bind_to (prog_Encode_2_is hN) <| ite_yes (by omega) <| ite_yes (by rw [q]; exact strB_self _) rfl
  · exact bind_to e <| bind_to q <| ite_yes (by omega) <| ite_yes (strB_self _) rfl
theorem ProgBack_t {k : Nat} {Y : List Int} (hk : k ≤ 512) (hY : ∀ x ∈ Y, 0 ≤ x ∧ x ≤ 255) (hl : Y.length ≤ 5120) (r8 : 0 ≤ a8 ∧ a8 ≤ 65535) (r9 : 0 ≤ a9 ∧ a9 ≤ 255) (hN : 50000 ≤ N) : law11_ProgBack_h4m0 L1 n2 n3 L5 n6 n7 a8 a9 N (progL k Y) = some (.inl .h3m0) := by
  unfold law11_ProgBack_h4m0
  have hL := progL_len k Y
  by_cases z : a9 = 0
  · exact ite_no (fun h => h z) rfl
  obtain ⟨t0, t1, t2⟩ := turned hk hY hl r8.1 r9.1 r9.2 z hN
  exact ite_yes z <| ite_yes (by omega) <| ite_yes (by omega) <| ite_yes (by omega) <| ite_yes (by omega) <| ite_yes t0 <| ite_yes t1 <| bind_to t2 <| ite_no (by decide) rfl
theorem runs (hp : n2 ≤ L1.length) (hc : n2 ≤ n3) (hb : ∀ i, i < L5.length → 0 ≤ L5.getD i 0 ∧ L5.getD i 0 ≤ 255) (h6 : n6 ≤ L5.length) (h7 : n6 ≤ n7) (r8 : 0 ≤ a8 ∧ a8 ≤ 65535) (r9 : 0 ≤ a9 ∧ a9 ≤ 255) (hN : 50000 ≤ N) : law11_ProgBack L1 n2 n3 L5 n6 n7 a8 a9 N = some (.r0 true) := by
  refine (goM_in (show law11_ProgBackIn L1 n2 n3 L5 n6 n7 a8 a9 N = some (.inl .h1m0) from ite_yes (by split <;> omega) <| ite_yes (by split <;> omega) rfl)).trans ?_
  have f5 := five (n := n2)
  have B : law11_ProgBackStep L1 n2 n3 L5 n6 n7 a8 a9 N .h3m0 = some (.inr (.r0 true)) := ProgBack_b (L1 := L1) (n2 := n2) (n3 := n3) (L5 := L5) (n6 := n6) (n7 := n7) (a8 := a8) (a9 := a9) (N := N) hb h6 h7 hN
  have S2 : ∀ z : Int, z ≠ 0 → law11_ProgBackStep L1 n2 n3 L5 n6 n7 a8 a9 N (.h2m0 z) = some (.inl .h3m0) := fun z hz => by
    show law11_ProgBack_h2m0 L1 n2 n3 L5 n6 n7 a8 a9 N z = _
    unfold law11_ProgBack_h2m0
    exact ite_no hz rfl
  rcases prog_Encode_is (L := L1) (n := ((((if (520 : Int) < ((n2 : Nat) : Int) then (520 : Int) else ((n2 : Nat) : Int))).toNat - 0))) (c := n3 - 0) (N := N) (by omega) hN with ⟨h, e⟩ | ⟨h, ⟨g, e⟩ | ⟨Y, g, e⟩⟩
  · exact iter_up (n := 0 + 1 + 1 + 1) (by omega) ((iter_next (y := .h2m0 3) (bind_to e rfl)).trans ((iter_next (S2 _ (by decide))).trans (iter_done B)))
  · exact iter_up (n := 0 + 1 + 1 + 1) (by omega) ((iter_next (y := .h2m0 110) (bind_to e rfl)).trans ((iter_next (S2 _ (by decide))).trans (iter_done B)))
  · have hl : (L1.take ((((if (520 : Int) < ((n2 : Nat) : Int) then (520 : Int) else ((n2 : Nat) : Int))).toNat - 0))).length = ((((if (520 : Int) < ((n2 : Nat) : Int) then (520 : Int) else ((n2 : Nat) : Int))).toNat - 0)) := by rw [List.length_take]; omega
    obtain ⟨y1, y2⟩ := encN_len (by omega) g
    have D := dec_enc (by omega) g hN
    rw [hl] at D y1
    have hL := progL_len ((((if (520 : Int) < ((n2 : Nat) : Int) then (520 : Int) else ((n2 : Nat) : Int))).toNat - 0)) Y
    refine iter_up (n := 0 + 1 + 1 + 1 + 1) (by omega) ((iter_next (y := .h2m1 (progL ((((if (520 : Int) < ((n2 : Nat) : Int) then (520 : Int) else ((n2 : Nat) : Int))).toNat - 0)) Y)) (bind_to e rfl)).trans ((iter_next (y := .h4m0 (progL ((((if (520 : Int) < ((n2 : Nat) : Int) then (520 : Int) else ((n2 : Nat) : Int))).toNat - 0)) Y)) ?_).trans ((iter_next (y := .h3m0) (ProgBack_t (L1 := L1) (n2 := n2) (n3 := n3) (L5 := L5) (n6 := n6) (n7 := n7) (a8 := a8) (a9 := a9)  h y2 (by omega) r8 r9 hN)).trans (iter_done B))))
    show law11_ProgBack_h2m1 L1 n2 n3 L5 n6 n7 a8 a9 N (progL ((((if (520 : Int) < ((n2 : Nat) : Int) then (520 : Int) else ((n2 : Nat) : Int))).toNat - 0)) Y) = _
    unfold law11_ProgBack_h2m1
    by_cases z : ((((if (520 : Int) < ((n2 : Nat) : Int) then (520 : Int) else ((n2 : Nat) : Int))).toNat - 0)) = 0
    · rw [if_pos z] at D
      have M : ref11_Same L1 ((((if (520 : Int) < ((n2 : Nat) : Int) then (520 : Int) else ((n2 : Nat) : Int))).toNat - 0)) (n3 - 0) N = some (.r0 true) := by
        rw [z]
        exact same_none (by omega)
      exact bind_to D <| ite_no (fun h => h rfl) <| bind_to M <| ite_no (fun h => h rfl) <| ite_no (by omega) rfl
    · rw [if_neg z] at D
      exact bind_to D <| bind_to (same_take (by omega) h hN) <| ite_no (fun h => h rfl) <| ite_no (by omega) rfl
theorem ProgBack_2_b : law11_ProgBack_2_h3m0 L1 n2 n3 a8 a9 N = some (.inr (.r0 true)) := rfl
theorem ProgBack_2_t {k : Nat} {Y : List Int} (hk : k ≤ 512) (hY : ∀ x ∈ Y, 0 ≤ x ∧ x ≤ 255) (hl : Y.length ≤ 5120) (r8 : 0 ≤ a8 ∧ a8 ≤ 65535) (r9 : 0 ≤ a9 ∧ a9 ≤ 255) (hN : 50000 ≤ N) : law11_ProgBack_2_h4m0 L1 n2 n3 a8 a9 N (progL k Y) = some (.inl .h3m0) := by
  unfold law11_ProgBack_2_h4m0
  have hL := progL_len k Y
  by_cases z : a9 = 0
  · exact ite_no (fun h => h z) rfl
  obtain ⟨t0, t1, t2⟩ := turned hk hY hl r8.1 r9.1 r9.2 z hN
  exact ite_yes z <| ite_yes (by omega) <| ite_yes (by omega) <| ite_yes (by omega) <| ite_yes (by omega) <| ite_yes t0 <| ite_yes t1 <| bind_to t2 <| ite_no (by decide) rfl
theorem runs2 (hp : n2 ≤ L1.length) (hc : n2 ≤ n3) (r8 : 0 ≤ a8 ∧ a8 ≤ 65535) (r9 : 0 ≤ a9 ∧ a9 ≤ 255) (hN : 50000 ≤ N) : law11_ProgBack_2 L1 n2 n3 a8 a9 N = some (.r0 true) := by
  refine (goM_in (show law11_ProgBack_2In L1 n2 n3 a8 a9 N = some (.inl .h1m0) from ite_yes (by split <;> omega) rfl)).trans ?_
  have f5 := five (n := n2)
  have B : law11_ProgBack_2Step L1 n2 n3 a8 a9 N .h3m0 = some (.inr (.r0 true)) := ProgBack_2_b (L1 := L1) (n2 := n2) (n3 := n3) (a8 := a8) (a9 := a9) (N := N)
  have S2 : ∀ z : Int, z ≠ 0 → law11_ProgBack_2Step L1 n2 n3 a8 a9 N (.h2m0 z) = some (.inl .h3m0) := fun z hz => by
    show law11_ProgBack_2_h2m0 L1 n2 n3 a8 a9 N z = _
    unfold law11_ProgBack_2_h2m0
    exact ite_no hz rfl
  rcases prog_Encode_is (L := L1) (n := ((((if (520 : Int) < ((n2 : Nat) : Int) then (520 : Int) else ((n2 : Nat) : Int))).toNat - 0))) (c := n3 - 0) (N := N) (by omega) hN with ⟨h, e⟩ | ⟨h, ⟨g, e⟩ | ⟨Y, g, e⟩⟩
  · exact iter_up (n := 0 + 1 + 1 + 1) (by omega) ((iter_next (y := .h2m0 3) (bind_to e rfl)).trans ((iter_next (S2 _ (by decide))).trans (iter_done B)))
  · exact iter_up (n := 0 + 1 + 1 + 1) (by omega) ((iter_next (y := .h2m0 110) (bind_to e rfl)).trans ((iter_next (S2 _ (by decide))).trans (iter_done B)))
  · have hl : (L1.take ((((if (520 : Int) < ((n2 : Nat) : Int) then (520 : Int) else ((n2 : Nat) : Int))).toNat - 0))).length = ((((if (520 : Int) < ((n2 : Nat) : Int) then (520 : Int) else ((n2 : Nat) : Int))).toNat - 0)) := by rw [List.length_take]; omega
    obtain ⟨y1, y2⟩ := encN_len (by omega) g
    have D := dec_enc (by omega) g hN
    rw [hl] at D y1
    have hL := progL_len ((((if (520 : Int) < ((n2 : Nat) : Int) then (520 : Int) else ((n2 : Nat) : Int))).toNat - 0)) Y
    refine iter_up (n := 0 + 1 + 1 + 1 + 1) (by omega) ((iter_next (y := .h2m1 (progL ((((if (520 : Int) < ((n2 : Nat) : Int) then (520 : Int) else ((n2 : Nat) : Int))).toNat - 0)) Y)) (bind_to e rfl)).trans ((iter_next (y := .h4m0 (progL ((((if (520 : Int) < ((n2 : Nat) : Int) then (520 : Int) else ((n2 : Nat) : Int))).toNat - 0)) Y)) ?_).trans ((iter_next (y := .h3m0) (ProgBack_2_t (L1 := L1) (n2 := n2) (n3 := n3) (a8 := a8) (a9 := a9)  h y2 (by omega) r8 r9 hN)).trans (iter_done B))))
    show law11_ProgBack_2_h2m1 L1 n2 n3 a8 a9 N (progL ((((if (520 : Int) < ((n2 : Nat) : Int) then (520 : Int) else ((n2 : Nat) : Int))).toNat - 0)) Y) = _
    unfold law11_ProgBack_2_h2m1
    by_cases z : ((((if (520 : Int) < ((n2 : Nat) : Int) then (520 : Int) else ((n2 : Nat) : Int))).toNat - 0)) = 0
    · rw [if_pos z] at D
      have M : ref11_Same L1 ((((if (520 : Int) < ((n2 : Nat) : Int) then (520 : Int) else ((n2 : Nat) : Int))).toNat - 0)) (n3 - 0) N = some (.r0 true) := by
        rw [z]
        exact same_none (by omega)
      exact bind_to D <| ite_no (fun h => h rfl) <| bind_to M <| ite_no (fun h => h rfl) <| ite_no (by omega) rfl
    · rw [if_neg z] at D
      exact bind_to D <| bind_to (same_take (by omega) h hN) <| ite_no (fun h => h rfl) <| ite_no (by omega) rfl
theorem ProgBack_3_b (hb : ∀ i, i < L5.length → 0 ≤ L5.getD i 0 ∧ L5.getD i 0 ≤ 255) (h6 : n6 ≤ L5.length) (h7 : n6 ≤ n7) (hN : 50000 ≤ N) : law11_ProgBack_3_h4m0 L5 n6 n7 a8 a9 N = some (.inr (.r0 true)) := by
  unfold law11_ProgBack_3_h4m0
  obtain ⟨g5, g6⟩ := six (n := n6)
  rcases back (L := L5) (n := ((((if (6000 : Int) < ((n6 : Nat) : Int) then (6000 : Int) else ((n6 : Nat) : Int))).toNat - 0))) (c := n7 - 0) (N := N) hb g6 (by omega) (by omega) hN with ⟨z, z0, e⟩ | ⟨e, q⟩ | ⟨p, e, q⟩
  · exact bind_to e <| ite_yes z0 rfl
  · exact bind_to e <| ite_no (fun h => h rfl) <| bind_to (prog_Encode_2_is hN) <| ite_yes (by omega) <| ite_yes (by rw [q]; exact strB_self _) rfl
  · exact bind_to e <| bind_to q <| ite_yes (by omega) <| ite_yes (strB_self _) rfl
theorem ProgBack_3_t {k : Nat} {Y : List Int} (hk : k ≤ 512) (hY : ∀ x ∈ Y, 0 ≤ x ∧ x ≤ 255) (hl : Y.length ≤ 5120) (r8 : 0 ≤ a8 ∧ a8 ≤ 65535) (r9 : 0 ≤ a9 ∧ a9 ≤ 255) (hN : 50000 ≤ N) : law11_ProgBack_3_h3m0 L5 n6 n7 a8 a9 N (progL k Y) = some (.inl .h4m0) := by
  unfold law11_ProgBack_3_h3m0
  have hL := progL_len k Y
  by_cases z : a9 = 0
  · exact ite_no (fun h => h z) rfl
  obtain ⟨t0, t1, t2⟩ := turned hk hY hl r8.1 r9.1 r9.2 z hN
  exact ite_yes z <| ite_yes (by omega) <| ite_yes (by omega) <| ite_yes (by omega) <| ite_yes (by omega) <| ite_yes t0 <| ite_yes t1 <| bind_to t2 <| ite_no (by decide) rfl
theorem runs3 (hb : ∀ i, i < L5.length → 0 ≤ L5.getD i 0 ∧ L5.getD i 0 ≤ 255) (h6 : n6 ≤ L5.length) (h7 : n6 ≤ n7) (r8 : 0 ≤ a8 ∧ a8 ≤ 65535) (r9 : 0 ≤ a9 ∧ a9 ≤ 255) (hN : 50000 ≤ N) : law11_ProgBack_3 L5 n6 n7 a8 a9 N = some (.r0 true) := by
  refine (goM_in (show law11_ProgBack_3In L5 n6 n7 a8 a9 N = some (.inl .h1m0) from ite_yes (by split <;> omega) rfl)).trans ?_
  have e := prog_Encode_2_is hN
  have B : law11_ProgBack_3Step L5 n6 n7 a8 a9 N .h4m0 = some (.inr (.r0 true)) := ProgBack_3_b (L5 := L5) (n6 := n6) (n7 := n7) (a8 := a8) (a9 := a9) (N := N) hb h6 h7 hN
  have D := dec_enc (p := []) (Y := []) (N := N) (by decide) rfl hN
  have hL := progL_len 0 []
  have S2 : law11_ProgBack_3Step L5 n6 n7 a8 a9 N (.h2m0 (progL 0 [])) = some (.inl (.h3m0 (progL 0 []))) := by
    show law11_ProgBack_3_h2m0 L5 n6 n7 a8 a9 N (progL 0 []) = _
    unfold law11_ProgBack_3_h2m0
    exact bind_to D <| ite_no (fun h => h rfl) <| bind_to (same_nils (by omega)) <| ite_no (by rw [hL]; decide) rfl
  exact iter_up (n := 0 + 1 + 1 + 1 + 1) (by omega) ((iter_next (y := .h2m0 (progL 0 [])) (bind_to e rfl)).trans ((iter_next S2).trans ((iter_next (y := .h4m0) (ProgBack_3_t (L5 := L5) (n6 := n6) (n7 := n7) (a8 := a8) (a9 := a9) (k := 0) (Y := []) (by decide) (fun x hx => by cases hx) (by decide) r8 r9 hN)).trans (iter_done B))))
theorem ProgBack_4_b : law11_ProgBack_4_h4m0 a8 a9 N = some (.inr (.r0 true)) := rfl
theorem ProgBack_4_t {k : Nat} {Y : List Int} (hk : k ≤ 512) (hY : ∀ x ∈ Y, 0 ≤ x ∧ x ≤ 255) (hl : Y.length ≤ 5120) (r8 : 0 ≤ a8 ∧ a8 ≤ 65535) (r9 : 0 ≤ a9 ∧ a9 ≤ 255) (hN : 50000 ≤ N) : law11_ProgBack_4_h3m0 a8 a9 N (progL k Y) = some (.inl .h4m0) := by
  unfold law11_ProgBack_4_h3m0
  have hL := progL_len k Y
  by_cases z : a9 = 0
  · exact ite_no (fun h => h z) rfl
  obtain ⟨t0, t1, t2⟩ := turned hk hY hl r8.1 r9.1 r9.2 z hN
  exact ite_yes z <| ite_yes (by omega) <| ite_yes (by omega) <| ite_yes (by omega) <| ite_yes (by omega) <| ite_yes t0 <| ite_yes t1 <| bind_to t2 <| ite_no (by decide) rfl
theorem runs4 (r8 : 0 ≤ a8 ∧ a8 ≤ 65535) (r9 : 0 ≤ a9 ∧ a9 ≤ 255) (hN : 50000 ≤ N) : law11_ProgBack_4 a8 a9 N = some (.r0 true) := by
  refine (goM_in (show law11_ProgBack_4In a8 a9 N = some (.inl .h1m0) from rfl)).trans ?_
  have e := prog_Encode_2_is hN
  have B : law11_ProgBack_4Step a8 a9 N .h4m0 = some (.inr (.r0 true)) := ProgBack_4_b (a8 := a8) (a9 := a9) (N := N)
  have D := dec_enc (p := []) (Y := []) (N := N) (by decide) rfl hN
  have hL := progL_len 0 []
  have S2 : law11_ProgBack_4Step a8 a9 N (.h2m0 (progL 0 [])) = some (.inl (.h3m0 (progL 0 []))) := by
    show law11_ProgBack_4_h2m0 a8 a9 N (progL 0 []) = _
    unfold law11_ProgBack_4_h2m0
    exact bind_to D <| ite_no (fun h => h rfl) <| bind_to (same_nils (by omega)) <| ite_no (by rw [hL]; decide) rfl
  exact iter_up (n := 0 + 1 + 1 + 1 + 1) (by omega) ((iter_next (y := .h2m0 (progL 0 [])) (bind_to e rfl)).trans ((iter_next S2).trans ((iter_next (y := .h4m0) (ProgBack_4_t (a8 := a8) (a9 := a9) (k := 0) (Y := []) (by decide) (fun x hx => by cases hx) (by decide) r8 r9 hN)).trans (iter_done B))))
end
end Pk
end Ev
end Go.Proofs.Ytaahblgahilohaa
