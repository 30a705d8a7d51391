/- Programs out of bytes: plain. -/
import Derived.Test.YtaahblgahilohaaPke
namespace Go.Proofs.Ytaahblgahilohaa
open Go.RowKit
namespace Ev
set_option linter.unusedVariables false
set_option linter.unusedSimpArgs false
theorem or_i64 {a b : Int} (a0 : 0 ≤ a) (a1 : a ≤ 255) (b0 : 0 ≤ b) (b1 : b ≤ 255) : IntKind.i64.wrap (((BitVec.ofInt IntKind.i64.bits (IntKind.i64.wrap (a * (2 ^ 8 : Int))) ||| BitVec.ofInt IntKind.i64.bits b).toNat : Nat) : Int) = 256 * a + b := by
  have e1 : IntKind.i64.wrap (a * (2 ^ 8 : Int)) = 256 * a := by
    rw [show (2 ^ 8 : Int) = 256 from rfl, w64 (by omega) (by omega)]; omega
  rw [e1]
  obtain ⟨x, rfl⟩ : ∃ x : Nat, a = (x : Int) := ⟨a.toNat, by omega⟩
  obtain ⟨y, rfl⟩ : ∃ y : Nat, b = (y : Int) := ⟨b.toNat, by omega⟩
  have hy : y < 2 ^ 8 := by omega
  have e2 : (BitVec.ofInt IntKind.i64.bits (256 * (x : Int)) ||| BitVec.ofInt IntKind.i64.bits (y : Int)).toNat = 2 ^ 8 * x + y := by
    rw [BitVec.toNat_or, BitVec.toNat_ofInt, BitVec.toNat_ofInt]
    have h1 : ((256 * (x : Int)) % ((2 ^ IntKind.i64.bits : Nat) : Int)).toNat = 2 ^ 8 * x := by
      show ((256 * (x : Int)) % (18446744073709551616 : Int)).toNat = 2 ^ 8 * x
      omega
    have h2 : ((y : Int) % ((2 ^ IntKind.i64.bits : Nat) : Int)).toNat = y := by
      show ((y : Int) % (18446744073709551616 : Int)).toNat = y
      omega
    rw [h1, h2]
    exact (Nat.two_pow_add_eq_or_of_lt hy x).symm
  rw [e2, w64 (by omega) (by omega)]; omega
theorem fold_pushI (ns : List Int) : ∀ acc : ByteArray, (ns.foldl (fun r n => r.push (UInt8.ofNat n.toNat)) acc).data = acc.data ++ (ns.map fun n => UInt8.ofNat n.toNat).toArray := by
  induction ns with
  | nil => intro acc; simp
  | cons n ns ih => intro acc; rw [List.foldl_cons, ih]; simp [ByteArray.push]
theorem strOf_dataI (ns : List Int) : (strOf ns).data = (ns.map fun n => UInt8.ofNat n.toNat).toArray := by
  unfold strOf; rw [fold_pushI]; simp
theorem strB_eq {a b : List Int} (ha : ∀ x ∈ a, 0 ≤ x ∧ x ≤ 255) (hb : ∀ x ∈ b, 0 ≤ x ∧ x ≤ 255) (h : strB a b = true) : a = b := by
  have h1 : (strOf a).data = (strOf b).data := eq_of_beq (show ((strOf a).data == (strOf b).data) = true from h)
  rw [strOf_dataI, strOf_dataI] at h1
  have h2 : a.map (fun n => UInt8.ofNat n.toNat) = b.map (fun n => UInt8.ofNat n.toNat) := by simpa using h1
  have h3 : ∀ l : List Int, (∀ x ∈ l, 0 ≤ x ∧ x ≤ 255) → (l.map (fun n => UInt8.ofNat n.toNat)).map (fun u => ((u.toNat : Nat) : Int)) = l := fun l hl => by
    rw [List.map_map]
    conv => rhs; rw [← List.map_id l]
    refine List.map_congr_left fun x hx => ?_
    obtain ⟨p1, p2⟩ := hl x hx
    show (((UInt8.ofNat x.toNat).toNat : Nat) : Int) = x
    rw [UInt8.toNat_ofNat']
    omega
  rw [← h3 a ha, ← h3 b hb, h2]
theorem head_inj {N : Nat} (hN : 2000 ≤ N) {i i' : R_iiii} {y y' R R' : List Int} (h : encF i N = some y) (h' : encF i' N = some y') (e : y ++ R = y' ++ R') (hb : ∀ x ∈ y ++ R, 0 ≤ x ∧ x ≤ 255) (hl : (y ++ R).length ≤ 50000) : i = i' ∧ R = R' := by
  obtain ⟨F, g⟩ := instr_Decode_3_forth (L := y ++ R) (n := (y ++ R).length) (c := (y ++ R).length) (getD_byteI hb) (by omega) (by omega) (Nat.le_refl _) hN h (by rw [List.drop_zero, List.take_length])
  obtain ⟨F', g'⟩ := instr_Decode_3_forth (L := y ++ R) (n := (y ++ R).length) (c := (y ++ R).length) (getD_byteI hb) (by omega) (by omega) (Nat.le_refl _) hN h' (by rw [List.drop_zero, List.take_length, e])
  rw [F] at F'
  injection F' with F'
  injection F' with f1 f2 f3 f4
  obtain ⟨a0, a1, a2, a3⟩ := i
  obtain ⟨b0, b1, b2, b3⟩ := i'
  simp only at f1 f2 f3 g g'
  refine ⟨?_, f4⟩
  rw [← g, ← g', f1, f2, f3]
theorem encN_inj {N : Nat} (hN : 2000 ≤ N) : ∀ {p q : List R_iiii} {Y Z R S : List Int}, encN N p = some Y → encN N q = some Z → p.length = q.length → Y ++ R = Z ++ S → (∀ x ∈ Y ++ R, 0 ≤ x ∧ x ≤ 255) → (Y ++ R).length ≤ 50000 → p = q ∧ Y = Z ∧ R = S
  | [], [], Y, Z, R, S, h1, h2, _, e, _, _ => by
    obtain rfl := Option.some.inj h1
    obtain rfl := Option.some.inj h2
    exact ⟨rfl, rfl, e⟩
  | i :: p, i' :: q, Y, Z, R, S, h1, h2, hl, e, hb, h5 => by
    obtain ⟨y, Y, e1, e2, rfl⟩ := encN_cons h1
    obtain ⟨z, Z, d1, d2, rfl⟩ := encN_cons h2
    rw [List.append_assoc, List.append_assoc] at e
    rw [List.append_assoc] at hb h5
    obtain ⟨rfl, e'⟩ := head_inj hN e1 d1 e hb h5
    obtain rfl := Option.some.inj (e1.symm.trans d1)
    obtain ⟨rfl, rfl, rfl⟩ := encN_inj hN e2 d2 (by simpa using hl) e' (fun x hx => hb x (List.mem_append_right _ hx)) (by rw [List.length_append] at h5; omega)
    exact ⟨rfl, rfl, rfl⟩
/-- The program of bytes. -/
def Good (L : List Int) (n nn N : Nat) (p : List R_iiii) : Prop := p.length = nn ∧ nn ≤ 512 ∧ encN N p = some ((L.drop 6).take (n - 7)) ∧ L.take 4 = [71, 78, 84, 1] ∧ sumP (L.take (n - 1)) = L.getD (n - 1) 0
section
variable {L : List Int} {n c N nn : Nat}
theorem take_seven (h7 : 7 ≤ n) (hn : n ≤ L.length) : L.take n = L.take 4 ++ [L.getD 4 0] ++ [L.getD 5 0] ++ (L.drop 6).take (n - 7) ++ [L.getD (n - 1) 0] := by
  rw [take_snoc (by omega) 0, take_snoc (by omega) 0, ← List.take_add, show 6 + (n - 7) = n - 1 by omega, take_snoc (by omega) 0, show n - 1 + 1 = n by omega]
theorem good_take (hb : ∀ i, i < L.length → 0 ≤ L.getD i 0 ∧ L.getD i 0 ≤ 255) (h7 : 7 ≤ n) (hn : n ≤ L.length) (hnn : (nn : Int) = 256 * L.getD 4 0 + L.getD 5 0) {p : List R_iiii} (h : Good L n nn N p) : L.take n = progL nn ((L.drop 6).take (n - 7)) := by
  obtain ⟨h1, h2, h3, h4, h5⟩ := h
  obtain ⟨b1, b2⟩ := hb 4 (by omega)
  obtain ⟨b3, b4⟩ := hb 5 (by omega)
  have e : L.take 4 ++ [L.getD 4 0] ++ [L.getD 5 0] = hdr nn := by
    rw [h4]
    unfold hdr
    rw [show (nn : Int) / 256 = L.getD 4 0 by omega, show (nn : Int) % 256 = L.getD 5 0 by omega]
    rfl
  have e2 : L.take (n - 1) = hdr nn ++ (L.drop 6).take (n - 7) := by
    rw [← e, take_snoc (by omega) 0, take_snoc (by omega) 0, ← List.take_add, show 6 + (n - 7) = n - 1 by omega]
  rw [take_seven h7 hn, e]
  unfold progL
  rw [← e2, h5]
theorem take_good (h7 : 7 ≤ n) (hn : n ≤ L.length) (hnn : (nn : Int) = 256 * L.getD 4 0 + L.getD 5 0) {p : List R_iiii} {Y : List Int} (hp : p.length ≤ 512) (hY : encN N p = some Y) (h : L.take n = progL p.length Y) : Good L n nn N p := by
  have hl : n = 7 + Y.length := by
    have := congrArg List.length h
    rw [List.length_take] at this
    unfold progL hdr at this
    simp only [List.length_append, List.length_cons, List.length_nil] at this
    omega
  unfold progL at h
  have t : ∀ k, k ≤ n → L.take k = (hdr p.length ++ Y ++ [sumP (hdr p.length ++ Y)]).take k := fun k hk => by rw [← h, List.take_take, Nat.min_eq_left hk]
  have g : ∀ k, k < n → L.getD k 0 = (hdr p.length ++ Y ++ [sumP (hdr p.length ++ Y)]).getD k 0 := fun k hk => by
    rw [← h]; simp [List.getD, List.getElem?_take, hk]
  have g4 : L.getD 4 0 = (p.length : Int) / 256 := by rw [g 4 (by omega)]; rfl
  have g5 : L.getD 5 0 = (p.length : Int) % 256 := by rw [g 5 (by omega)]; rfl
  have hlen : (hdr p.length ++ Y).length = n - 1 := by rw [List.length_append]; show 6 + Y.length = _; omega
  have t1 : L.take (n - 1) = hdr p.length ++ Y := by rw [t (n - 1) (by omega), List.take_left' hlen]
  refine ⟨by omega, by omega, ?_, ?_, ?_⟩
  · rw [hY]
    congr 1
    have e3 : (L.drop 6).take (n - 7) = (L.take (n - 1)).drop 6 := by rw [List.drop_take, show n - 1 - 6 = n - 7 by omega]
    rw [e3, t1]
    exact (List.drop_left' (l₁ := hdr p.length) (i := 6) rfl).symm
  · rw [t 4 (by omega)]; rfl
  · rw [t1, g (n - 1) (by omega), ← hlen, getD_snoc]
theorem dloop2 (hor : IntKind.i64.wrap (((BitVec.ofInt IntKind.i64.bits (IntKind.i64.wrap ((L.getD 4 0) * (2 ^ 8 : Int))) ||| BitVec.ofInt IntKind.i64.bits (L.getD 5 0)).toNat : Nat) : Int) = (nn : Int)) (hN : 50000 ≤ N) : ∀ k R p j f, j + k = nn → (∀ x ∈ R, 0 ≤ x ∧ x ≤ 255) → R.length ≤ 10000 → p.length + k ≤ 1000 → k < f → (∃ q, encN N q = some R ∧ q.length = k ∧ iter (prog_Decode_2Step L n c N) f (.h1m2 R p j) = some (.r1 (p ++ q))) ∨ (iter (prog_Decode_2Step L n c N) f (.h1m2 R p j) = some (.r0 110) ∧ ∀ q, q.length = k → encN N q ≠ some R) := by
  intro k
  induction k with
  | zero =>
    intro R p j f hj hR hl hp hf
    obtain ⟨f, rfl⟩ : ∃ g, f = g + 1 := ⟨f - 1, by omega⟩
    by_cases h0 : 0 < R.length
    · refine .inr ⟨iter_done ?_, fun q hq he => ?_⟩
      · show prog_Decode_2_h1m2 L n c N R p j = _
        unfold prog_Decode_2_h1m2
        rw [hor]
        exact ite_no (by omega) <| ite_yes (by omega) rfl
      · obtain rfl := List.eq_nil_of_length_eq_zero hq
        have := Option.some.inj he
        rw [← this] at h0; simp at h0
    · refine .inl ⟨[], by rw [List.eq_nil_of_length_eq_zero (l := R) (by omega)]; rfl, rfl, iter_done ?_⟩
      show prog_Decode_2_h1m2 L n c N R p j = _
      unfold prog_Decode_2_h1m2
      rw [hor, List.append_nil]
      exact ite_no (by omega) <| ite_no (by omega) rfl
  | succ k ih =>
    intro R p j f hj hR hl hp hf
    obtain ⟨f, rfl⟩ : ∃ g, f = g + 1 := ⟨f - 1, by omega⟩
    rcases instr_Decode_3_back (L := R) (n := R.length) (c := R.length) (N := N) (getD_byteI hR) (by omega) (by omega) (Nat.le_refl _) (by omega) with ⟨z, z0, e⟩ | ⟨i, y, R', e, e0, e1, e2⟩
    · refine .inr ⟨iter_done ?_, fun q hq he => ?_⟩
      · show prog_Decode_2_h1m2 L n c N R p j = _
        unfold prog_Decode_2_h1m2
        rw [hor]
        exact ite_yes (by omega) <| bind_to e <| ite_yes z0 rfl
      · match q, hq with
        | i :: q, hq =>
          obtain ⟨y, Z, d1, d2, d3⟩ := encN_cons he
          have := (instr_Decode_3_forth (L := R) (n := R.length) (c := R.length) (getD_byteI hR) (by omega) (by omega) (Nat.le_refl _) (by omega) d1 (by rw [List.drop_zero, List.take_length, d3])).1
          rw [e] at this; cases this
    · rw [List.drop_zero, List.take_length] at e2
      have S : prog_Decode_2Step L n c N (.h1m2 R p j) = some (.inl (.h1m2 R' (p ++ [i]) (j + 1))) := by
        show prog_Decode_2_h1m2 L n c N R p j = _
        unfold prog_Decode_2_h1m2
        rw [hor]
        refine ite_yes (by omega) <| bind_to e <| ite_yes (by omega) ?_
        rw [← e0]
      have hRl : R.length = y.length + R'.length := by rw [e2, List.length_append]
      rcases ih R' (p ++ [i]) (j + 1) f (by omega) (fun x hx => hR x (by rw [e2]; exact List.mem_append_right _ hx)) (by omega) (by rw [List.length_append]; simp only [List.length_cons, List.length_nil]; omega) (by omega) with ⟨q, q1, q2, q3⟩ | ⟨q1, q2⟩
      · exact .inl ⟨i :: q, by rw [e2]; exact encN_put e1 q1, by rw [List.length_cons, q2], (iter_next S).trans (by rw [q3, List.append_assoc]; rfl)⟩
      · refine .inr ⟨(iter_next S).trans q1, fun q hq he => ?_⟩
        match q, hq with
        | i' :: q, hq =>
          obtain ⟨y', Z, d1, d2, d3⟩ := encN_cons he
          obtain ⟨_, rfl⟩ := head_inj (by omega) e1 d1 (e2.symm.trans d3) (by rw [← e2]; exact hR) (by rw [← e2]; omega)
          exact q2 q (by simpa using hq) d2
/-- What the program makes of bytes. -/
theorem prog_dec2 (hb : ∀ i, i < L.length → 0 ≤ L.getD i 0 ∧ L.getD i 0 ≤ 255) (h7 : 7 ≤ n) (h6 : n ≤ 6000) (hn : n ≤ L.length) (hc : n ≤ c) (hN : 50000 ≤ N) (hnn : (nn : Int) = 256 * L.getD 4 0 + L.getD 5 0) :
    (∃ p, Good L n nn N p ∧ prog_Decode_2 L n c N = if nn = 0 then some (.r0 0) else some (.r1 p)) ∨ ((∀ p, ¬ Good L n nn N p) ∧ prog_Decode_2 L n c N = some (.r0 110)) := by
  obtain ⟨b1, b2⟩ := hb 4 (by omega)
  obtain ⟨b3, b4⟩ := hb 5 (by omega)
  have hor : IntKind.i64.wrap (((BitVec.ofInt IntKind.i64.bits (IntKind.i64.wrap ((L.getD 4 0) * (2 ^ 8 : Int))) ||| BitVec.ofInt IntKind.i64.bits (L.getD 5 0)).toNat : Nat) : Int) = (nn : Int) := by rw [or_i64 b1 b2 b3 b4, hnn]
  have start : ∀ o, o = prog_Decode_2In L n c N → goM (prog_Decode_2Step L n c N) N o = prog_Decode_2 L n c N := fun o ho => by rw [ho]; rfl
  have bad : prog_Decode_2In L n c N = some (.inr (.r0 110)) → prog_Decode_2 L n c N = some (.r0 110) := fun h => goM_out h
  have hlP : ((L.drop 6).take (n - 7)).length = n - 7 := by rw [List.length_take, List.length_drop]; omega
  by_cases q1 : strB (L.take 4) ([71, 78, 84, 1] : List Int) = true
  case neg =>
    refine .inr ⟨fun p hp => q1 (by rw [hp.2.2.2.1]; exact strB_self _), bad ?_⟩
    unfold prog_Decode_2In
    rw [hor]
    exact ite_no (by omega) <| ite_yes (by omega) <| ite_yes (by omega) <| ite_yes (by omega) <| ite_yes (by omega) <| ite_yes (by omega) <| ite_yes (by omega) <| ite_yes (by omega) <| ite_yes (by omega) <| ite_yes (by omega) <| ite_no q1 rfl
  have q1' : L.take 4 = [71, 78, 84, 1] := strB_eq (fun x hx => row_byte hb 0 4 x hx) (by decide) q1
  by_cases q2 : 512 < nn
  · refine .inr ⟨fun p hp => by have := hp.2.1; omega, bad ?_⟩
    unfold prog_Decode_2In
    rw [hor]
    exact ite_no (by omega) <| ite_yes (by omega) <| ite_yes (by omega) <| ite_yes (by omega) <| ite_yes (by omega) <| ite_yes (by omega) <| ite_yes (by omega) <| ite_yes (by omega) <| ite_yes (by omega) <| ite_yes (by omega) <| ite_yes q1 <| ite_yes (by omega) rfl
  have hw : IntKind.i64.wrap ((nn : Int) * 10) = (nn : Int) * 10 := w64 (by omega) (by omega)
  by_cases q3 : nn * 10 < n - 7
  · refine .inr ⟨fun p hp => by have := (encN_len (by omega) hp.2.2.1).1; rw [hlP, hp.1] at this; omega, bad ?_⟩
    unfold prog_Decode_2In
    rw [hor, hw]
    exact ite_no (by omega) <| ite_yes (by omega) <| ite_yes (by omega) <| ite_yes (by omega) <| ite_yes (by omega) <| ite_yes (by omega) <| ite_yes (by omega) <| ite_yes (by omega) <| ite_yes (by omega) <| ite_yes (by omega) <| ite_yes q1 <| ite_no (by omega) <| ite_yes (by omega) rfl
  by_cases q4 : sumP (L.take (n - 1)) = L.getD (n - 1) 0
  case neg =>
    refine .inr ⟨fun p hp => q4 hp.2.2.2.2, bad ?_⟩
    unfold prog_Decode_2In
    rw [hor, hw]
    exact ite_no (by omega) <| ite_yes (by omega) <| ite_yes (by omega) <| ite_yes (by omega) <| ite_yes (by omega) <| ite_yes (by omega) <| ite_yes (by omega) <| ite_yes (by omega) <| ite_yes (by omega) <| ite_yes (by omega) <| ite_yes q1 <| ite_no (by omega) <| ite_no (by omega) <| bind_to (prog_sum_is (by omega) (by omega) hN) <| ite_yes q4 rfl
  have hI : prog_Decode_2 L n c N = iter (prog_Decode_2Step L n c N) N .h1m0 := goM_in (show prog_Decode_2In L n c N = some (.inl .h1m0) from by
    unfold prog_Decode_2In
    rw [hor, hw]
    exact ite_no (by omega) <| ite_yes (by omega) <| ite_yes (by omega) <| ite_yes (by omega) <| ite_yes (by omega) <| ite_yes (by omega) <| ite_yes (by omega) <| ite_yes (by omega) <| ite_yes (by omega) <| ite_yes (by omega) <| ite_yes q1 <| ite_no (by omega) <| ite_no (by omega) <| bind_to (prog_sum_is (by omega) (by omega) hN) <| ite_no (fun h => h q4) rfl)
  rw [hI]
  by_cases z0 : nn = 0
  · simp only [if_pos z0]
    by_cases h8 : 0 < n - 7
    · refine .inr ⟨fun p hp => ?_, iter_up (n := 0 + 1) (by omega) (iter_done ?_)⟩
      · have e := hp.2.2.1
        rw [List.eq_nil_of_length_eq_zero (hp.1.trans z0)] at e
        have := congrArg List.length (Option.some.inj e)
        rw [hlP] at this
        simp at this; omega
      · show prog_Decode_2_h1m0 L n c N = _
        unfold prog_Decode_2_h1m0
        rw [hor]
        exact ite_no (by omega) <| ite_yes (by omega) rfl
    · refine .inl ⟨[], ⟨z0.symm, by omega, by rw [List.eq_nil_of_length_eq_zero (hlP.trans (by omega))]; rfl, q1', q4⟩, iter_up (n := 0 + 1) (by omega) (iter_done ?_)⟩
      show prog_Decode_2_h1m0 L n c N = _
      unfold prog_Decode_2_h1m0
      rw [hor]
      exact ite_no (by omega) <| ite_no (by omega) rfl
  simp only [if_neg z0]
  obtain ⟨f, rfl⟩ : ∃ f, N = f + 1 := ⟨N - 1, by omega⟩
  have e6 : n - 1 - 6 = n - 7 := by omega
  rcases instr_Decode_back (L := L) (o := 6) (n := n - 1 - 6) (c := c - 6) (N := f + 1) hb (by omega) (by omega) (by omega) (by omega) with ⟨z, zz, e⟩ | ⟨i, y, R, e, e0, e1, e2⟩
  · refine .inr ⟨fun p hp => ?_, iter_done ?_⟩
    · obtain ⟨g1, g2, g3, _⟩ := hp
      match p, g1 with
      | [], g1 => exact z0 g1.symm
      | i :: p, g1 =>
        obtain ⟨y, Z, d1, d2, d3⟩ := encN_cons g3
        have := (instr_Decode_forth (L := L) (o := 6) (n := n - 1 - 6) (c := c - 6) hb (by omega) (by omega) (by omega) (by omega) d1 (by rw [e6, d3])).1
        rw [e] at this; cases this
    · show prog_Decode_2_h1m0 L n c (f + 1) = _
      unfold prog_Decode_2_h1m0
      rw [hor]
      exact ite_yes (by omega) <| bind_to e <| ite_yes zz rfl
  · rw [e6] at e2
    have S : prog_Decode_2Step L n c (f + 1) .h1m0 = some (.inl (.h1m2 R [i] 1)) := by
      show prog_Decode_2_h1m0 L n c (f + 1) = _
      unfold prog_Decode_2_h1m0
      rw [hor]
      refine ite_yes (by omega) <| bind_to e ?_
      rw [← e0]
    have hR : ∀ x ∈ R, 0 ≤ x ∧ x ≤ 255 := fun x hx => row_byte hb 6 (n - 7) x (by rw [e2]; exact List.mem_append_right _ hx)
    have hRl : n - 7 = y.length + R.length := by rw [← hlP, e2, List.length_append]
    rcases dloop2 (n := n) (c := c) (N := f + 1) hor hN (nn - 1) R [i] 1 f (by omega) hR (by omega) (by show 1 + _ ≤ _; omega) (by omega) with ⟨q, g1, g2, g3⟩ | ⟨g1, g2⟩
    · exact .inl ⟨i :: q, ⟨by rw [List.length_cons, g2]; omega, by omega, by rw [e2]; exact encN_put e1 g1, q1', q4⟩, (iter_next S).trans g3⟩
    · refine .inr ⟨fun p hp => ?_, (iter_next S).trans g1⟩
      obtain ⟨k1, k2, k3, _⟩ := hp
      match p, k1 with
      | [], k1 => exact z0 k1.symm
      | i' :: p, k1 =>
        obtain ⟨y', Z, d1, d2, d3⟩ := encN_cons k3
        rw [e2] at d3
        obtain ⟨_, rfl⟩ := head_inj (by omega) e1 d1 d3 (by rw [← e2]; exact row_byte hb 6 (n - 7)) (by rw [← e2, hlP]; omega)
        exact g2 p (by rw [List.length_cons] at k1; omega) d2
theorem dloop3 (hor : IntKind.i64.wrap (((BitVec.ofInt IntKind.i64.bits (IntKind.i64.wrap ((L.getD 4 0) * (2 ^ 8 : Int))) ||| BitVec.ofInt IntKind.i64.bits (L.getD 5 0)).toNat : Nat) : Int) = (nn : Int)) (hN : 50000 ≤ N) : ∀ k R p j f, j + k = nn → (∀ x ∈ R, 0 ≤ x ∧ x ≤ 255) → R.length ≤ 10000 → p.length + k ≤ 1000 → k < f → (∃ q, encN N q = some R ∧ q.length = k ∧ iter (prog_Decode_3Step L n c N) f (.h1m2 R p j) = some (.r1 (p ++ q))) ∨ (iter (prog_Decode_3Step L n c N) f (.h1m2 R p j) = some (.r0 110) ∧ ∀ q, q.length = k → encN N q ≠ some R) := by
  intro k
  induction k with
  | zero =>
    intro R p j f hj hR hl hp hf
    obtain ⟨f, rfl⟩ : ∃ g, f = g + 1 := ⟨f - 1, by omega⟩
    by_cases h0 : 0 < R.length
    · refine .inr ⟨iter_done ?_, fun q hq he => ?_⟩
      · show prog_Decode_3_h1m2 L n c N R p j = _
        unfold prog_Decode_3_h1m2
        rw [hor]
        exact ite_no (by omega) <| ite_yes (by omega) rfl
      · obtain rfl := List.eq_nil_of_length_eq_zero hq
        have := Option.some.inj he
        rw [← this] at h0; simp at h0
    · refine .inl ⟨[], by rw [List.eq_nil_of_length_eq_zero (l := R) (by omega)]; rfl, rfl, iter_done ?_⟩
      show prog_Decode_3_h1m2 L n c N R p j = _
      unfold prog_Decode_3_h1m2
      rw [hor, List.append_nil]
      exact ite_no (by omega) <| ite_no (by omega) rfl
  | succ k ih =>
    intro R p j f hj hR hl hp hf
    obtain ⟨f, rfl⟩ : ∃ g, f = g + 1 := ⟨f - 1, by omega⟩
    rcases instr_Decode_3_back (L := R) (n := R.length) (c := R.length) (N := N) (getD_byteI hR) (by omega) (by omega) (Nat.le_refl _) (by omega) with ⟨z, z0, e⟩ | ⟨i, y, R', e, e0, e1, e2⟩
    · refine .inr ⟨iter_done ?_, fun q hq he => ?_⟩
      · show prog_Decode_3_h1m2 L n c N R p j = _
        unfold prog_Decode_3_h1m2
        rw [hor]
        exact ite_yes (by omega) <| bind_to e <| ite_yes z0 rfl
      · match q, hq with
        | i :: q, hq =>
          obtain ⟨y, Z, d1, d2, d3⟩ := encN_cons he
          have := (instr_Decode_3_forth (L := R) (n := R.length) (c := R.length) (getD_byteI hR) (by omega) (by omega) (Nat.le_refl _) (by omega) d1 (by rw [List.drop_zero, List.take_length, d3])).1
          rw [e] at this; cases this
    · rw [List.drop_zero, List.take_length] at e2
      have S : prog_Decode_3Step L n c N (.h1m2 R p j) = some (.inl (.h1m2 R' (p ++ [i]) (j + 1))) := by
        show prog_Decode_3_h1m2 L n c N R p j = _
        unfold prog_Decode_3_h1m2
        rw [hor]
        refine ite_yes (by omega) <| bind_to e <| ite_yes (by omega) ?_
        rw [← e0]
      have hRl : R.length = y.length + R'.length := by rw [e2, List.length_append]
      rcases ih R' (p ++ [i]) (j + 1) f (by omega) (fun x hx => hR x (by rw [e2]; exact List.mem_append_right _ hx)) (by omega) (by rw [List.length_append]; simp only [List.length_cons, List.length_nil]; omega) (by omega) with ⟨q, q1, q2, q3⟩ | ⟨q1, q2⟩
      · exact .inl ⟨i :: q, by rw [e2]; exact encN_put e1 q1, by rw [List.length_cons, q2], (iter_next S).trans (by rw [q3, List.append_assoc]; rfl)⟩
      · refine .inr ⟨(iter_next S).trans q1, fun q hq he => ?_⟩
        match q, hq with
        | i' :: q, hq =>
          obtain ⟨y', Z, d1, d2, d3⟩ := encN_cons he
          obtain ⟨_, rfl⟩ := head_inj (by omega) e1 d1 (e2.symm.trans d3) (by rw [← e2]; exact hR) (by rw [← e2]; omega)
          exact q2 q (by simpa using hq) d2
/-- What the program makes of bytes. -/
theorem prog_dec3 (hb : ∀ i, i < L.length → 0 ≤ L.getD i 0 ∧ L.getD i 0 ≤ 255) (h7 : 7 ≤ n) (h6 : n ≤ 6000) (hn : n ≤ L.length) (hc : n ≤ c) (hN : 50000 ≤ N) (hnn : (nn : Int) = 256 * L.getD 4 0 + L.getD 5 0) :
    (∃ p, Good L n nn N p ∧ prog_Decode_3 L n c N = if nn = 0 then some (.r0 0) else some (.r1 p)) ∨ ((∀ p, ¬ Good L n nn N p) ∧ prog_Decode_3 L n c N = some (.r0 110)) := by
  obtain ⟨b1, b2⟩ := hb 4 (by omega)
  obtain ⟨b3, b4⟩ := hb 5 (by omega)
  have hor : IntKind.i64.wrap (((BitVec.ofInt IntKind.i64.bits (IntKind.i64.wrap ((L.getD 4 0) * (2 ^ 8 : Int))) ||| BitVec.ofInt IntKind.i64.bits (L.getD 5 0)).toNat : Nat) : Int) = (nn : Int) := by rw [or_i64 b1 b2 b3 b4, hnn]
  have start : ∀ o, o = prog_Decode_3In L n c N → goM (prog_Decode_3Step L n c N) N o = prog_Decode_3 L n c N := fun o ho => by rw [ho]; rfl
  have bad : prog_Decode_3In L n c N = some (.inr (.r0 110)) → prog_Decode_3 L n c N = some (.r0 110) := fun h => goM_out h
  have hlP : ((L.drop 6).take (n - 7)).length = n - 7 := by rw [List.length_take, List.length_drop]; omega
  by_cases q1 : strB (L.take 4) ([71, 78, 84, 1] : List Int) = true
  case neg =>
    refine .inr ⟨fun p hp => q1 (by rw [hp.2.2.2.1]; exact strB_self _), bad ?_⟩
    unfold prog_Decode_3In
    rw [hor]
    exact ite_no (by omega) <| ite_yes (by omega) <| ite_yes (by omega) <| ite_yes (by omega) <| ite_yes (by omega) <| ite_yes (by omega) <| ite_yes (by omega) <| ite_yes (by omega) <| ite_yes (by omega) <| ite_yes (by omega) <| ite_no q1 rfl
  have q1' : L.take 4 = [71, 78, 84, 1] := strB_eq (fun x hx => row_byte hb 0 4 x hx) (by decide) q1
  by_cases q2 : 512 < nn
  · refine .inr ⟨fun p hp => by have := hp.2.1; omega, bad ?_⟩
    unfold prog_Decode_3In
    rw [hor]
    exact ite_no (by omega) <| ite_yes (by omega) <| ite_yes (by omega) <| ite_yes (by omega) <| ite_yes (by omega) <| ite_yes (by omega) <| ite_yes (by omega) <| ite_yes (by omega) <| ite_yes (by omega) <| ite_yes (by omega) <| ite_yes q1 <| ite_yes (by omega) rfl
  have hw : IntKind.i64.wrap ((nn : Int) * 10) = (nn : Int) * 10 := w64 (by omega) (by omega)
  by_cases q3 : nn * 10 < n - 7
  · refine .inr ⟨fun p hp => by have := (encN_len (by omega) hp.2.2.1).1; rw [hlP, hp.1] at this; omega, bad ?_⟩
    unfold prog_Decode_3In
    rw [hor, hw]
    exact ite_no (by omega) <| ite_yes (by omega) <| ite_yes (by omega) <| ite_yes (by omega) <| ite_yes (by omega) <| ite_yes (by omega) <| ite_yes (by omega) <| ite_yes (by omega) <| ite_yes (by omega) <| ite_yes (by omega) <| ite_yes q1 <| ite_no (by omega) <| ite_yes (by omega) rfl
  by_cases q4 : sumP (L.take (n - 1)) = L.getD (n - 1) 0
  case neg =>
    refine .inr ⟨fun p hp => q4 hp.2.2.2.2, bad ?_⟩
    unfold prog_Decode_3In
    rw [hor, hw]
    exact ite_no (by omega) <| ite_yes (by omega) <| ite_yes (by omega) <| ite_yes (by omega) <| ite_yes (by omega) <| ite_yes (by omega) <| ite_yes (by omega) <| ite_yes (by omega) <| ite_yes (by omega) <| ite_yes (by omega) <| ite_yes q1 <| ite_no (by omega) <| ite_no (by omega) <| bind_to (prog_sum_2_is (by omega) (by omega) hN) <| ite_yes q4 rfl
  have hI : prog_Decode_3 L n c N = iter (prog_Decode_3Step L n c N) N .h1m0 := goM_in (show prog_Decode_3In L n c N = some (.inl .h1m0) from by
    unfold prog_Decode_3In
    rw [hor, hw]
    exact ite_no (by omega) <| ite_yes (by omega) <| ite_yes (by omega) <| ite_yes (by omega) <| ite_yes (by omega) <| ite_yes (by omega) <| ite_yes (by omega) <| ite_yes (by omega) <| ite_yes (by omega) <| ite_yes (by omega) <| ite_yes q1 <| ite_no (by omega) <| ite_no (by omega) <| bind_to (prog_sum_2_is (by omega) (by omega) hN) <| ite_no (fun h => h q4) rfl)
  rw [hI]
  by_cases z0 : nn = 0
  · simp only [if_pos z0]
    by_cases h8 : 0 < n - 7
    · refine .inr ⟨fun p hp => ?_, iter_up (n := 0 + 1) (by omega) (iter_done ?_)⟩
      · have e := hp.2.2.1
        rw [List.eq_nil_of_length_eq_zero (hp.1.trans z0)] at e
        have := congrArg List.length (Option.some.inj e)
        rw [hlP] at this
        simp at this; omega
      · show prog_Decode_3_h1m0 L n c N = _
        unfold prog_Decode_3_h1m0
        rw [hor]
        exact ite_no (by omega) <| ite_yes (by omega) rfl
    · refine .inl ⟨[], ⟨z0.symm, by omega, by rw [List.eq_nil_of_length_eq_zero (hlP.trans (by omega))]; rfl, q1', q4⟩, iter_up (n := 0 + 1) (by omega) (iter_done ?_)⟩
      show prog_Decode_3_h1m0 L n c N = _
      unfold prog_Decode_3_h1m0
      rw [hor]
      exact ite_no (by omega) <| ite_no (by omega) rfl
  simp only [if_neg z0]
  obtain ⟨f, rfl⟩ : ∃ f, N = f + 1 := ⟨N - 1, by omega⟩
  have e6 : n - 1 - 6 = n - 7 := by omega
  rcases instr_Decode_4_back (L := L) (o := 6) (n := n - 1 - 6) (c := c - 6) (N := f + 1) hb (by omega) (by omega) (by omega) (by omega) with ⟨z, zz, e⟩ | ⟨i, y, R, e, e0, e1, e2⟩
  · refine .inr ⟨fun p hp => ?_, iter_done ?_⟩
    · obtain ⟨g1, g2, g3, _⟩ := hp
      match p, g1 with
      | [], g1 => exact z0 g1.symm
      | i :: p, g1 =>
        obtain ⟨y, Z, d1, d2, d3⟩ := encN_cons g3
        have := (instr_Decode_4_forth (L := L) (o := 6) (n := n - 1 - 6) (c := c - 6) hb (by omega) (by omega) (by omega) (by omega) d1 (by rw [e6, d3])).1
        rw [e] at this; cases this
    · show prog_Decode_3_h1m0 L n c (f + 1) = _
      unfold prog_Decode_3_h1m0
      rw [hor]
      exact ite_yes (by omega) <| bind_to e <| ite_yes zz rfl
  · rw [e6] at e2
    have S : prog_Decode_3Step L n c (f + 1) .h1m0 = some (.inl (.h1m2 R [i] 1)) := by
      show prog_Decode_3_h1m0 L n c (f + 1) = _
      unfold prog_Decode_3_h1m0
      rw [hor]
      refine ite_yes (by omega) <| bind_to e ?_
      rw [← e0]
    have hR : ∀ x ∈ R, 0 ≤ x ∧ x ≤ 255 := fun x hx => row_byte hb 6 (n - 7) x (by rw [e2]; exact List.mem_append_right _ hx)
    have hRl : n - 7 = y.length + R.length := by rw [← hlP, e2, List.length_append]
    rcases dloop3 (n := n) (c := c) (N := f + 1) hor hN (nn - 1) R [i] 1 f (by omega) hR (by omega) (by show 1 + _ ≤ _; omega) (by omega) with ⟨q, g1, g2, g3⟩ | ⟨g1, g2⟩
    · exact .inl ⟨i :: q, ⟨by rw [List.length_cons, g2]; omega, by omega, by rw [e2]; exact encN_put e1 g1, q1', q4⟩, (iter_next S).trans g3⟩
    · refine .inr ⟨fun p hp => ?_, (iter_next S).trans g1⟩
      obtain ⟨k1, k2, k3, _⟩ := hp
      match p, k1 with
      | [], k1 => exact z0 k1.symm
      | i' :: p, k1 =>
        obtain ⟨y', Z, d1, d2, d3⟩ := encN_cons k3
        rw [e2] at d3
        obtain ⟨_, rfl⟩ := head_inj (by omega) e1 d1 d3 (by rw [← e2]; exact row_byte hb 6 (n - 7)) (by rw [← e2, hlP]; omega)
        exact g2 p (by rw [List.length_cons] at k1; omega) d2
end
end Ev
end Go.Proofs.Ytaahblgahilohaa
