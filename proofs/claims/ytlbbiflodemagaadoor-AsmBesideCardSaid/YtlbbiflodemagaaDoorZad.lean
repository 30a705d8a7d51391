/- Part 4. -/
import Derived.Test.YtlbbiflodemagaaDoorZac
import Derived.Lib.AtoiTie
import Derived.Test.YtlbbiflodemagaaDoorZab
set_option linter.unusedSimpArgs false
set_option linter.unusedVariables false
/- Numbers. -/
namespace Go.Proofs.YtlbbiflodemagaaDoor
open Go.RowKit
namespace Ev
set_option linter.unusedVariables false
theorem TabW.below {w w' : World} (h : TabW w) (hb : Below w.heap.size w w') : TabW w' := fun x hx => by
 obtain ⟨C, t, fr, h1, h2⟩ := h x hx
 exact ⟨C, t, fr, (hb.block _ (Array.getElem?_eq_some_iff.1 h1).1).trans h1, h2⟩
theorem Zwr (a b : List Int) : ∀ acc, Zkp acc (a ++ b) = Zkp (Zkp acc a) b := by
 induction a with
 | nil => intro acc; rfl
 | cons x a ih => intro acc; exact ih _
theorem Ztf (a b : List UInt8) : ∀ acc, Lib.decFrom acc (a ++ b) = (Lib.decFrom acc a).bind fun m => Lib.decFrom m b := by
 induction a with
 | nil => intro acc; rfl
 | cons x a ih =>
  intro acc
  show (match Lib.digitVal x with | some d => Lib.decFrom (acc * 10 + d) (a ++ b) | none => none) = Option.bind (match Lib.digitVal x with | some d => Lib.decFrom (acc * 10 + d) a | none => none) _
  cases Lib.digitVal x with
  | none => rfl
  | some d => exact ih _
theorem Zq3 (d : Nat) (hd : d < 10) (acc : Nat) : Lib.decFrom acc (u8s [((48 + d : Nat) : Int)]) = some (acc * 10 + d) := by
 have h : Lib.digitVal (UInt8.ofNat (48 + d)) = some d := by
  unfold Lib.digitVal
  have : (UInt8.ofNat (48 + d)).toNat = 48 + d := by rw [UInt8.toNat_ofNat']; omega
  rw [this, if_pos (by omega)]
  congr 1; omega
 show (match Lib.digitVal (UInt8.ofNat ((48 + d : Nat) : Int).toNat) with | some d => Lib.decFrom (acc * 10 + d) [] | none => none) = _
 rw [Int.toNat_natCast, h]
 rfl
def ZrU (u : Nat) (l : List Int) : Prop := u < 10 ^ l.length ∧ 0 < l.length ∧ (l.length = 1 ∨ 10 ^ (l.length - 1) ≤ u) ∧ (∀ x ∈ l, 48 ≤ x ∧ x ≤ 57) ∧ (∀ a, Zkp a l = a * 10 ^ l.length + u) ∧ ∀ a, Lib.decFrom a (u8s l) = some (a * 10 ^ l.length + u)
theorem Zt8 : ∀ (f u : Nat), 0 < f → u < 10 ^ f → ZrU u (Zgo f u)
 | 0, u, h, _ => by omega
 | f + 1, u, _, hu => by
  unfold Zgo
  by_cases h10 : u < 10
  ·rw [if_pos h10]
   refine ⟨by simpa using h10, by simp, .inl rfl, fun x hx => ?_, fun a => ?_, fun a => ?_⟩
   ·obtain rfl := List.mem_singleton.1 hx; omega
   ·show a * 10 + (((48 + u : Nat) : Int) - 48).toNat = _
    simp; omega
   ·rw [Zq3 u h10 a]; simp
  ·rw [if_neg h10]
   have hf : 0 < f := by
    rcases Nat.eq_zero_or_pos f with rfl | h
    ·simp at hu; omega
    ·exact h
   obtain ⟨i1, i2, i3, i4, i5, i6⟩ := Zt8 f (u / 10) hf (by rw [Nat.pow_succ] at hu; exact Nat.div_lt_of_lt_mul (by omega))
   generalize Zgo f (u / 10) = l at *
   have hlen : (l ++ [((48 + u % 10 : Nat) : Int)]).length = l.length + 1 := by simp
   refine ⟨?_, by rw [hlen]; omega, .inr ?_, fun x hx => ?_, fun a => ?_, fun a => ?_⟩
   ·rw [hlen, Nat.pow_succ]; omega
   ·rw [hlen, Nat.add_sub_cancel]
    obtain ⟨k, hk⟩ : ∃ k, l.length = k + 1 := ⟨l.length - 1, by omega⟩
    rcases i3 with h1 | h1
    ·rw [h1]; omega
    ·rw [hk] at h1 ⊢
     rw [Nat.add_sub_cancel] at h1
     rw [Nat.pow_succ]; omega
   ·rcases List.mem_append.1 hx with h | h
    ·exact i4 x h
    ·obtain rfl := List.mem_singleton.1 h; omega
   ·rw [Zwr, i5, hlen]
    show (a * 10 ^ l.length + u / 10) * 10 + (((48 + u % 10 : Nat) : Int) - 48).toNat = _
    have : (((48 + u % 10 : Nat) : Int) - 48).toNat = u % 10 := by omega
    rw [this, Nat.pow_succ, ← Nat.mul_assoc, Nat.add_mul]
    omega
   ·rw [ZmT, Ztf, i6, hlen]
    show Lib.decFrom _ (u8s [((48 + u % 10 : Nat) : Int)]) = _
    rw [Zq3 _ (by omega), Nat.pow_succ, ← Nat.mul_assoc, Nat.add_mul]
    congr 1
    omega
theorem Zkc {u : Nat} (h : u < 10 ^ 20) : ZrU u (Zgo 20 u) := Zt8 20 u (by decide) h
theorem Zmv {u : Nat} {l : List Int} (h : ZrU u l) (k : Nat) (hk : 0 < k) : l.length ≤ k ↔ u < 10 ^ k := by
 obtain ⟨h1, h2, h3, _⟩ := h
 constructor
 ·intro hl
  exact Nat.lt_of_lt_of_le h1 (Nat.pow_le_pow_right (by decide) hl)
 ·intro hu
  rcases h3 with h3 | h3
  ·omega
  ·rcases Nat.lt_or_ge k l.length with hl | hl
   ·have := Nat.pow_le_pow_right (n := 10) (by decide) (show k ≤ l.length - 1 by omega)
    omega
   ·exact hl
theorem Zl2 {u : Nat} {l : List Int} (h : ZrU u l) : ∃ x r, l = x :: r ∧ 48 ≤ x ∧ x ≤ 57 := by
 cases l with
 | nil => have := h.2.1; simp at this
 | cons x r => exact ⟨x, r, rfl, h.2.2.2.1 x List.mem_cons_self⟩
theorem ZrV {n : Int} (h0 : -9223372036854775808 ≤ n) (h1 : n ≤ 9223372036854775807) : ZP (ZeX n) = n := by
 unfold ZeX
 by_cases hn : n < 0
 ·rw [if_pos hn]
  have hd := Zkc (u := n.natAbs) (by omega)
  show (if (45 : Int) = 45 then -(Zkp 0 (Zgo 20 n.natAbs) : Int) else (Zkp 0 (45 :: Zgo 20 n.natAbs) : Int)) = n
  rw [if_pos rfl, hd.2.2.2.2.1 0]
  omega
 ·rw [if_neg hn]
  have hd := Zkc (u := n.toNat) (by omega)
  obtain ⟨x, r, e, hx⟩ := Zl2 hd
  have h5 := hd.2.2.2.2.1 0
  rw [e] at h5 ⊢
  show (if x = 45 then _ else (Zkp 0 (x :: r) : Int)) = n
  rw [if_neg (by omega), h5]
  omega
theorem Zq4 {u : Nat} {l : List Int} (h : ZrU u l) : ZL l = true := by
 unfold ZL
 rw [List.all_eq_true]
 intro x hx
 have := h.2.2.2.1 x hx
 simp only [Bool.and_eq_true, decide_eq_true_eq]
 omega
theorem Zu4 (n : Int) (h0 : -9223372036854775808 ≤ n) (h1 : n ≤ 9223372036854775807) : ZL (ZeX n) = true := by
 unfold ZeX
 by_cases hn : n < 0
 ·rw [if_pos hn]; exact ZeY.2 ⟨by omega, Zq4 (Zkc (by omega))⟩
 ·rw [if_neg hn]; exact Zq4 (Zkc (by omega))
theorem Zt9 : ∀ {a b : List Int}, ZL a = true → ZL b = true → u8s a = u8s b → a = b
 | [], [], _, _, _ => rfl
 | [], _ :: _, _, _, h => by simp [u8s] at h
 | _ :: _, [], _, _, h => by simp [u8s] at h
 | x :: a, y :: b, h1, h2, h => by
  obtain ⟨⟨q0, q1⟩, q2⟩ := ZeY.1 h1
  obtain ⟨⟨r0, r1⟩, r2⟩ := ZeY.1 h2
  simp only [u8s, List.map_cons, List.cons.injEq] at h
  have e := congrArg UInt8.toNat h.1
  rw [UInt8.toNat_ofNat', UInt8.toNat_ofNat'] at e
  have : x = y := by omega
  rw [this, Zt9 q2 r2 h.2]
theorem Zxd {n : Int} (h0 : -9223372036854775808 ≤ n) (h1 : n ≤ 9223372036854775807) : u8s (ZeX n) = Lib.itoa n := by
 have := congrArg (fun x : ByteArray => x.data.toList) (Zp4 h0 h1)
 simpa [Zcd] using this
def ZkI : List Int → List Int
 | [] => []
 | x :: l => if x = 45 then l else x :: l
theorem Zn8 (n : Int) (h0 : -9223372036854775808 ≤ n) (h1 : n ≤ 9223372036854775807) : ZkI (ZeX n) = Zgo 20 n.natAbs := by
 unfold ZeX
 by_cases hn : n < 0
 ·rw [if_pos hn]; rfl
 ·rw [if_neg hn]
  have e : n.toNat = n.natAbs := by omega
  obtain ⟨x, r, e2, hx⟩ := Zl2 (Zkc (u := n.toNat) (by omega))
  rw [e2]
  show (if x = 45 then r else x :: r) = _
  rw [if_neg (by omega), ← e2, e]
theorem Zvw {n : Int} (h0 : -10000000000000 < n) (h1 : n < 10000000000000) : Lib.atoiAll (u8s (ZeX n)) = .ok n := by
 have hd := Zkc (u := n.natAbs) (by omega)
 have hl := (Zmv hd 13 (by decide)).2 (by omega)
 have hu : ∀ l : List Int, (u8s l).length = l.length := fun l => List.length_map ..
 unfold ZeX
 by_cases hn : n < 0
 ·rw [if_pos hn, Lib.atoiAll_short _ (by rw [hu]; simp; omega)]
  have h6 := hd.2.2.2.2.2 0
  have hne : (u8s (Zgo 20 n.natAbs)).isEmpty = false := by
   obtain ⟨x, r, e2, _⟩ := Zl2 hd
   rw [e2]; rfl
  have : Lib.atoi (u8s (45 :: Zgo 20 n.natAbs)) = (Lib.decNat (u8s (Zgo 20 n.natAbs))).map fun (m : Nat) => -(m : Int) := rfl
  rw [this]
  unfold Lib.decNat
  rw [hne, h6]
  show Lib.NumEnd.ok (-((0 * _ + n.natAbs : Nat) : Int)) = _
  congr 1; omega
 ·have e : n.toNat = n.natAbs := by omega
  rw [if_neg hn, e, Lib.atoiAll_short _ (by rw [hu]; omega)]
  have h6 := hd.2.2.2.2.2 0
  obtain ⟨x, r, e2, hx⟩ := Zl2 hd
  rw [e2] at h6 ⊢
  have hb : (UInt8.ofNat x.toNat).toNat = x.toNat := by rw [UInt8.toNat_ofNat']; omega
  have n45 : (UInt8.ofNat x.toNat == 45) = false := beq_eq_false_iff_ne.2 fun h => by have := congrArg UInt8.toNat h; rw [hb] at this; have h45 : (45 : UInt8).toNat = 45 := rfl; omega
  have n43 : (UInt8.ofNat x.toNat == 43) = false := beq_eq_false_iff_ne.2 fun h => by have := congrArg UInt8.toNat h; rw [hb] at this; have h43 : (43 : UInt8).toNat = 43 := rfl; omega
  have : Lib.atoi (u8s (x :: r)) = (Lib.decNat (u8s (x :: r))).map fun (m : Nat) => (m : Int) := by
   show (if (UInt8.ofNat x.toNat == 45) = true then _ else if (UInt8.ofNat x.toNat == 43) = true then _ else _) = _
   rw [n45, n43]; rfl
  rw [this]
  unfold Lib.decNat
  show Lib.NumEnd.ofOption (Option.map _ (if (u8s (x :: r)).isEmpty = true then none else _)) = _
  rw [if_neg (by simp [u8s]), h6]
  show Lib.NumEnd.ok (((0 * _ + n.natAbs : Nat) : Int)) = _
  congr 1; omega
theorem Zmw {M : List Int} : ZcF M = true ↔ ∃ n : Int, -10000000000000 < n ∧ n < 10000000000000 ∧ M = ZeX n := by
 unfold ZcF
 simp only [Bool.and_eq_true, decide_eq_true_eq]
 constructor
 ·rintro ⟨h1, h2, h3⟩; exact ⟨_, h2, h3, h1⟩
 ·rintro ⟨n, h1, h2, rfl⟩
  rw [ZrV (by omega) (by omega)]
  exact ⟨rfl, h1, h2⟩
theorem trim_neg {M : List Int} (hb : ZL M = true) : Lib.trimPrefix (u8s M) [45] = u8s (match M with | [] => [] | x :: l => if x = 45 then l else x :: l) := by
  cases M with
  | nil => rfl
  | cons x l =>
    obtain ⟨⟨h0, h1⟩, h2⟩ := ZeY.1 hb
    have h := Zw7 (b := 45) h0 h1
    have e : Lib.trimPrefix (u8s (x :: l)) [45] = if (UInt8.ofNat x.toNat == 45) = true then u8s l else u8s (x :: l) := by
      unfold Lib.trimPrefix Lib.hasPrefix
      show (if ([45].isPrefixOf (UInt8.ofNat x.toNat :: u8s l)) = true then _ else _) = _
      have : ([45] : List UInt8).isPrefixOf (UInt8.ofNat x.toNat :: u8s l) = (UInt8.ofNat x.toNat == 45) := by
        show ((45 : UInt8) == UInt8.ofNat x.toNat && true) = _
        rw [Bool.and_true, BEq.comm]
      rw [this]; rfl
    rw [e, h]
    by_cases hx : x = 45
    · rw [if_pos (by rw [decide_eq_true_eq]; exact hx)]; simp only [hx, if_true]
    · rw [if_neg (by rw [decide_eq_true_eq]; exact hx)]; simp only [hx, if_false]
theorem bytesWorld_below' (w : World) (t : TypeId) (x : _) : Below w.heap.size w (Lib.bytesWorld w t x) := Lib.bytesWorld_below _ _ _
theorem below_atoi {w w' : World} {t : TypeId} (h : w' = w ∨ ∃ x, w' = Lib.bytesWorld w t x) : Below w.heap.size w w' := by
  rcases h with rfl | ⟨x, rfl⟩
  · exact Below.refl _ _
  · exact Lib.bytesWorld_below _ _ _
theorem tabErr {w : World} (h : TabW w) : ∃ ev, w.cell? ⟨6, 0, none⟩ = some ev ∧ (ev = .nilIface ∨ ∃ te pe, ev = .iface te pe) := by
  obtain ⟨C, t, fr, hw, y, hy, hC⟩ := h (6, []) (by simp [tabs])
  exact ⟨y, by rw [Lib.cell_of_heap hw]; exact hy, hC⟩
theorem number_bad (x : ByteArray) (w : World) (h : (Lib.trimPrefix x.data.toList [45]).length < 1 ∨ 13 < (Lib.trimPrefix x.data.toList [45]).length) : Calls Tryd.prog 68 #[.string x] w fun e w' => e = .returned (.tuple #[.int .i64 0, .bool false]) ∧ Below w.heap.size w w' := by
  have hsz : (⟨(Lib.trimPrefix x.data.toList [45]).toArray⟩ : ByteArray).size = (Lib.trimPrefix x.data.toList [45]).length := by simp [ByteArray.size]
  generalize hd : Lib.trimPrefix x.data.toList [45] = d at *
  go_enter Tryd.func68, Tryd.ntmps68
  go_wp2_with fail
  refine (Any.strings_TrimPrefix lays101 _ _ _).mono ?_
  rintro e w1 ⟨rfl, rfl⟩
  rw [show (⟨#[45]⟩ : ByteArray).data.toList = [45] from rfl, hd]
  go_wp2_with fail
  all_goals (first | (go_ret; exact ⟨rfl, Below.refl _ _⟩) | (go_ret2; exact ⟨rfl, Below.refl _ _⟩) | (go_ret3; exact ⟨rfl, Below.refl _ _⟩))
theorem number_syn (x : ByteArray) (w : World) (ht : TabW w) (h0 : 1 ≤ (Lib.trimPrefix x.data.toList [45]).length) (h1 : (Lib.trimPrefix x.data.toList [45]).length ≤ 13) (hx : x.size ≤ 100) (hs1 : ∀ n, Lib.atoiAll x.data.toList ≠ .ok n) (hs2 : Lib.atoiAll x.data.toList ≠ .range) : Calls Tryd.prog 68 #[.string x] w fun e w' => e = .returned (.tuple #[.int .i64 0, .bool false]) ∧ Below w.heap.size w w' := by
  have hsz : (⟨(Lib.trimPrefix x.data.toList [45]).toArray⟩ : ByteArray).size = (Lib.trimPrefix x.data.toList [45]).length := by simp [ByteArray.size]
  obtain ⟨ev, hv, hev⟩ := tabErr ht
  generalize hd : Lib.trimPrefix x.data.toList [45] = d at *
  have h0' : ¬ ((d.length : Int) < 1) := by omega
  have h1' : ¬ (13 < (d.length : Int)) := by omega
  go_enter Tryd.func68, Tryd.ntmps68
  go_wp2_with fail
  refine (Any.strings_TrimPrefix lays101 _ _ _).mono ?_
  rintro e w1 ⟨rfl, rfl⟩
  rw [show (⟨#[45]⟩ : ByteArray).data.toList = [45] from rfl, hd]
  go_wp2_with fail
  all_goals first | (exfalso; omega) | skip
  all_goals (refine (Any.strconv_Atoi_syntax laysC172 x (by omega) (by cases hq : Lib.atoiAll x.data.toList with | ok n => exact absurd hq (hs1 n) | range => exact absurd hq hs2 | _ => rfl) ev _ hv hev).mono ?_)
  all_goals (rintro e w2 ⟨N, rfl, q1, q2, q3⟩)
  all_goals (go_wp2_with fail)
  all_goals (first | (go_ret; exact ⟨rfl, q3⟩) | (go_ret2; exact ⟨rfl, q3⟩) | (go_ret3; exact ⟨rfl, q3⟩))
theorem number_ok (x : ByteArray) (w : World) (ht : TabW w) (h0 : 1 ≤ (Lib.trimPrefix x.data.toList [45]).length) (h1 : (Lib.trimPrefix x.data.toList [45]).length ≤ 13) (hx : x.size ≤ 100) (n : Int) (hs : Lib.atoiAll x.data.toList = .ok n) (he : (⟨(Lib.itoa n).toArray⟩ : ByteArray) = x) : Calls Tryd.prog 68 #[.string x] w fun e w' => e = .returned (.tuple #[.int .i64 n, .bool true]) ∧ Below w.heap.size w w' := by
  have hsz : (⟨(Lib.trimPrefix x.data.toList [45]).toArray⟩ : ByteArray).size = (Lib.trimPrefix x.data.toList [45]).length := by simp [ByteArray.size]
  obtain ⟨b0, b1⟩ := Lib.atoiAll_bounds hs
  generalize hd : Lib.trimPrefix x.data.toList [45] = d at *
  have h0' : ¬ ((d.length : Int) < 1) := by omega
  have h1' : ¬ (13 < (d.length : Int)) := by omega
  have hq : ((⟨(Lib.itoa n).toArray⟩ : ByteArray).toList == x.toList) = true := by rw [he]; exact beq_self_eq_true _
  go_enter Tryd.func68, Tryd.ntmps68
  go_wp2_with fail
  refine (Any.strings_TrimPrefix lays101 _ _ _).mono ?_
  rintro e w1 ⟨rfl, rfl⟩
  rw [show (⟨#[45]⟩ : ByteArray).data.toList = [45] from rfl, hd]
  go_wp2_with fail
  all_goals first | (exfalso; omega) | skip
  all_goals (refine (Any.strconv_Atoi_ok laysC172 x (by omega) n hs _).mono ?_)
  all_goals (rintro e w2 ⟨rfl, q3⟩; have q3 := below_atoi q3)
  all_goals (go_wp2_with fail)
  all_goals (refine (Any.strconv_Itoa lays171 n b0 b1 _ (tabItoa (ht.below q3))).mono ?_; rintro e w3 ⟨rfl, q4⟩; have q4 := Zl0 q4; have q5 := q3.trans (q4.mono q3.size))
  all_goals (go_wp2_with fail)
  all_goals (first | (go_ret; exact ⟨rfl, q5⟩) | (go_ret2; exact ⟨rfl, q5⟩) | (go_ret3; exact ⟨rfl, q5⟩))
theorem number_no (x : ByteArray) (w : World) (ht : TabW w) (h0 : 1 ≤ (Lib.trimPrefix x.data.toList [45]).length) (h1 : (Lib.trimPrefix x.data.toList [45]).length ≤ 13) (hx : x.size ≤ 100) (n : Int) (hs : Lib.atoiAll x.data.toList = .ok n) (he : (⟨(Lib.itoa n).toArray⟩ : ByteArray) ≠ x) : Calls Tryd.prog 68 #[.string x] w fun e w' => e = .returned (.tuple #[.int .i64 0, .bool false]) ∧ Below w.heap.size w w' := by
  have hsz : (⟨(Lib.trimPrefix x.data.toList [45]).toArray⟩ : ByteArray).size = (Lib.trimPrefix x.data.toList [45]).length := by simp [ByteArray.size]
  obtain ⟨b0, b1⟩ := Lib.atoiAll_bounds hs
  generalize hd : Lib.trimPrefix x.data.toList [45] = d at *
  have h0' : ¬ ((d.length : Int) < 1) := by omega
  have h1' : ¬ (13 < (d.length : Int)) := by omega
  have hq : (Lib.itoa n == x.toList) = false := beq_eq_false_iff_ne.2 fun h => he (Zmu (by rw [← Lib.toList_data x, ← h]))
  go_enter Tryd.func68, Tryd.ntmps68
  go_wp2_with fail
  refine (Any.strings_TrimPrefix lays101 _ _ _).mono ?_
  rintro e w1 ⟨rfl, rfl⟩
  rw [show (⟨#[45]⟩ : ByteArray).data.toList = [45] from rfl, hd]
  go_wp2_with fail
  all_goals first | (exfalso; omega) | skip
  all_goals (refine (Any.strconv_Atoi_ok laysC172 x (by omega) n hs _).mono ?_)
  all_goals (rintro e w2 ⟨rfl, q3⟩; have q3 := below_atoi q3)
  all_goals (go_wp2_with fail)
  all_goals (refine (Any.strconv_Itoa lays171 n b0 b1 _ (tabItoa (ht.below q3))).mono ?_; rintro e w3 ⟨rfl, q4⟩; have q4 := Zl0 q4; have q5 := q3.trans (q4.mono q3.size))
  all_goals (go_wp2_with fail)
  all_goals (first | (go_ret; exact ⟨rfl, q5⟩) | (go_ret2; exact ⟨rfl, q5⟩) | (go_ret3; exact ⟨rfl, q5⟩))
theorem trim_un {M : List Int} (hb : ZL M = true) : Lib.trimPrefix (u8s M) [45] = u8s (ZkI M) := by
  rw [trim_neg hb]
  cases M <;> rfl
theorem num_run {M : List Int} (hb : ZL M = true) (hl : M.length ≤ 1000000) (w : World) (ht : TabW w) : Calls Tryd.prog 68 #[.string (Za M)] w fun e w' => e = .returned (if ZcF M = true then .tuple #[.int .i64 (ZP M), .bool true] else .tuple #[.int .i64 0, .bool false]) ∧ Below w.heap.size w w' := by
  have hu : ∀ l : List Int, (u8s l).length = l.length := fun l => List.length_map ..
  have htr : (Lib.trimPrefix (Za M).data.toList [45]).length = (ZkI M).length := by rw [Zcd, trim_un hb, hu]
  have hun : M.length ≤ (ZkI M).length + 1 := by
    cases M with
    | nil => simp
    | cons x l =>
      show l.length + 1 ≤ (if x = 45 then l else x :: l).length + 1
      split <;> simp
  by_cases hbad : (ZkI M).length < 1 ∨ 13 < (ZkI M).length
  · have hno : ¬ ZcF M = true := fun h => by
      obtain ⟨n, n1, n2, rfl⟩ := Zmw.1 h
      have hd := Zkc (u := n.natAbs) (by omega)
      rw [Zn8 n (by omega) (by omega)] at hbad
      have := (Zmv hd 13 (by decide)).2 (by omega)
      have := hd.2.1
      omega
    rw [if_neg hno]
    exact number_bad _ w (by rw [htr]; exact hbad)
  · have hsz : (Za M).size ≤ 100 := by rw [Zkb]; omega
    have g0 : 1 ≤ (Lib.trimPrefix (Za M).data.toList [45]).length := by rw [htr]; omega
    have g1 : (Lib.trimPrefix (Za M).data.toList [45]).length ≤ 13 := by rw [htr]; omega
    by_cases hnum : ZcF M = true
    · rw [if_pos hnum]
      obtain ⟨n, n1, n2, rfl⟩ := Zmw.1 hnum
      rw [ZrV (by omega) (by omega)]
      exact number_ok _ w ht g0 g1 hsz n (by rw [Zcd]; exact Zvw n1 n2) (Zp4 (by omega) (by omega)).symm
    · rw [if_neg hnum]
      rcases ha : Lib.atoiAll (Za M).data.toList with n | _ | _
      ·
        refine number_no _ w ht g0 g1 hsz n ha fun he => hnum ?_
        obtain ⟨b0, b1⟩ := Lib.atoiAll_bounds ha
        have e1 : u8s M = u8s (ZeX n) := by
          have := congrArg (fun x : ByteArray => x.data.toList) he
          rw [Zcd] at this
          rw [Zxd b0 b1]
          exact this.symm
        have e2 := Zt9 hb (Zu4 n b0 b1) e1
        subst e2
        have hd := Zkc (u := n.natAbs) (by omega)
        rw [Zn8 n b0 b1] at hbad
        have := (Zmv hd 13 (by decide)).1 (by omega)
        exact Zmw.2 ⟨n, by omega, by omega, rfl⟩
      · exact number_syn _ w ht g0 g1 hsz (fun n e => by rw [ha] at e; cases e) (fun e => by rw [ha] at e; cases e)
      ·
        rw [Lib.atoiAll_short _ (by rw [Zcd, hu]; omega)] at ha
        cases hq : Lib.atoi (Za M).data.toList <;> rw [hq] at ha <;> cases ha
theorem num_does : ZeT Tryd.prog 68 Zu3 := by
  refine ZkF Tryd.func68 rfl (fun args s v s' h => ?_) fun args s v s' h ho => ?_
  · unfold Zu3 at h
    split at h
    · split at h
      · rename_i M s1 h1
        split at h
        · rename_i s2 h2; injection h with h; injection h with q1 q2; subst q2; exact (Zed h1).1.trans (ZgV h2).1
        · rename_i s2 h2; injection h with h; injection h with q1 q2; subst q2; exact (Zed h1).1.trans (ZgV h2).1
      · cases h
    · cases h
  · unfold Zu3 at h
    split at h
    · rename_i x hl
      have hA : args = #[.string x] := by rw [← Array.toArray_toList (xs := args), hl]
      subst hA
      have hargs : ∀ (ι : Ren) (args' : Array Value), VRs ι #[.string x] args' → args' = #[.string x] := fun ι args' ha => ZeP ha.1 fun i u z hx1 hy1 => (ha.2 i u z hx1 hy1).eq_of_free (ZaF (p := Zbv) (a := #[.string x]) rfl i u hx1)
      split at h
      · rename_i M s1 h1
        obtain ⟨_, e1, e2, e3⟩ := Zed h1
        split at h
        · rename_i s2 h2
          obtain ⟨_, f1, f2, f3, f4⟩ := ZgV h2
          injection h with h; injection h with q1 q2; subst q1 q2
          obtain ⟨rfl, hM, hlM⟩ := e3 (ZoN f4 ho)
          refine ⟨f1.trans e1, f2.trans e2, rfl, fun ι w args' ha he => ?_⟩
          obtain rfl := hargs ι args' ha
          have := num_run hM hlM w he.tabw
          rw [if_pos (f3 ho)] at this
          exact this
        · rename_i s2 h2
          obtain ⟨_, f1, f2, f3, f4⟩ := ZgV h2
          injection h with h; injection h with q1 q2; subst q1 q2
          obtain ⟨rfl, hM, hlM⟩ := e3 (ZoN f4 ho)
          refine ⟨f1.trans e1, f2.trans e2, rfl, fun ι w args' ha he => ?_⟩
          obtain rfl := hargs ι args' ha
          have := num_run hM hlM w he.tabw
          rw [if_neg (by rw [f3 ho]; simp)] at this
          exact this
      · cases h
    · cases h
end Ev
end Go.Proofs.YtlbbiflodemagaaDoor
/- The runner over this program. -/
namespace Go.Proofs.YtlbbiflodemagaaDoor
open Go.RowKit
namespace Ev

def Zu5 : FuncId → Option Ext := fun f =>
   none

theorem noGo : (Tryd.prog.funcs.toList.all fun fn => !(fn.name == "runtime.NumGoroutine")) = true := by kernel_rfl
theorem mixed : Tryd.prog.follows .mixedOrders = true := by kernel_rfl
def Zp6 (sp : FuncId → Option (List Value → Option Value)) (hp : FuncId → Option (Array Value → St → Out)) : FuncId → Option Ext := fun f => match Zu5 f with
  | some e => some e
  | none => match sp f with
    | some g => some (.fn g)
    | none => match hp f with
      | some g => some (.hp g)
      | none => none
def noHp : FuncId → Option (Array Value → St → Out) := fun _ => none
def extW (sp : FuncId → Option (List Value → Option Value)) : FuncId → Option Ext := Zp6 sp noHp
def ZmW (sp : FuncId → Option (List Value → Option Value)) : Prop := ∀ (f : Nat) (g : List Value → Option Value), sp f = some g → (∃ (fn : Func) (c : Code), Tryd.prog.funcs[f]? = some fn ∧ fn.body = some c) ∧
  ∀ (args : Array Value) (v : Value), Z4 Zbv args.toList = true → g args.toList = some v → ∀ w, TabW w → Calls Tryd.prog f args w fun e w' => e = .returned v ∧ Below w.heap.size w w'
def ZoP (hp : FuncId → Option (Array Value → St → Out)) : Prop := ∀ (f : Nat) (g : Array Value → St → Out), hp f = some g → ZeT Tryd.prog f g
theorem Zws : ZoP noHp := fun f g h => by cases h
theorem Zbk {b : Bool} {x e : Ext} {y : Option Ext} (h : (bif b then some x else y) = some e) : (b = true ∧ x = e) ∨ y = some e := by
  cases b with
  | true => exact .inl ⟨rfl, by simpa using h⟩
  | false => exact .inr (by simpa using h)
theorem ZkJ {f : Nat} {e : Ext} (he : Zu5 f = some e) : (∀ (kk : IntKind) (c : Nat), e = .at kk c → ∃ fn : Func, Tryd.prog.funcs[f]? = some fn ∧ fn.body.isNone = true ∧ Extern.findNext fn = none ∧
    (c = 0 ∧ Extern.find fn = some (Extern.Atomic.loadT (.int kk)) ∨ c = 1 ∧ Extern.find fn = some Extern.Atomic.storeT ∨
     c = 2 ∧ Extern.find fn = some (Extern.Atomic.update (Op.intArith .add) kk true) ∨ c = 3 ∧ Extern.find fn = some (Extern.Atomic.casT (.int kk)))) ∧
    (∀ n : Nat, e = .mark n → ∃ fn : Func, Tryd.prog.funcs[f]? = some fn ∧ fn.body.isNone = true ∧ Extern.findNext fn = none ∧
    (n = 0 ∧ (∃ m : Mark, Extern.find fn = some (fun _ => do mark m; pure Extern.Race.none_)) ∨ n = 1 ∧ ∃ m : Addr → Mark, Extern.find fn = some (Extern.Race.marked m))) ∧ (∀ g, e ≠ .fn g) ∧ (∀ g, e ≠ .hp g) ∧ (∀ S, e ≠ .tc S) := by
  unfold Zu5 at he
  cases he
theorem Zhj {sp : FuncId → Option (List Value → Option Value)} {hp : FuncId → Option (Array Value → St → Out)} {f : Nat} {e : Ext} (h : Zp6 sp hp f = some e) : Zu5 f = some e ∨ (∃ g, sp f = some g ∧ e = .fn g) ∨ ∃ g, hp f = some g ∧ e = .hp g := by
  unfold Zp6 at h
  split at h
  · rename_i e' he'
    injection h with h; subst h
    exact .inl he'
  · split at h
    · rename_i g hg
      injection h with h; subst h
      exact .inr (.inl ⟨g, hg, rfl⟩)
    · split at h
      · rename_i g hg
        injection h with h; subst h
        exact .inr (.inr ⟨g, hg, rfl⟩)
      · cases h
theorem Zwt {sp : FuncId → Option (List Value → Option Value)} {hp : FuncId → Option (Array Value → St → Out)} (hsp : ZmW sp) (hhp : ZoP hp) : Fit Tryd.prog (Zp6 sp hp) := by
  refine ⟨mixed, fun f fn hf => ?_, fun f g hg => ?_, fun f g hg => ?_, fun f S hS => ?_, fun f n hn => ?_, fun f kk e he => ?_⟩
  · have := List.all_eq_true.1 noGo fn (by
      obtain ⟨h, rfl⟩ := Array.getElem?_eq_some_iff.1 hf
      simp)
    simpa using this
  · rcases Zhj hg with h | ⟨g', h, hx⟩ | ⟨g', h, hx⟩
    · exact ((ZkJ h).2.2.1 g rfl).elim
    · injection hx with hx; subst hx; exact hsp f g h
    · cases hx
  · rcases Zhj hg with h | ⟨g', h, hx⟩ | ⟨g', h, hx⟩
    · exact ((ZkJ h).2.2.2.1 g rfl).elim
    · cases hx
    · injection hx with hx; subst hx; exact hhp f g h
  · rcases Zhj hS with h | ⟨g', h, hx⟩ | ⟨g', h, hx⟩
    · exact ((ZkJ h).2.2.2.2 S rfl).elim
    · cases hx
    · cases hx
  · rcases Zhj hn with h | ⟨g', h, hx⟩ | ⟨g', h, hx⟩
    · exact (ZkJ h).2.1 n rfl
    · cases hx
    · cases hx
  · rcases Zhj he with h | ⟨g', h, hx⟩ | ⟨g', h, hx⟩
    · exact (ZkJ h).1 kk e rfl
    · cases hx
    · cases hx
theorem fitW {sp : FuncId → Option (List Value → Option Value)} (hsp : ZmW sp) : Fit Tryd.prog (extW sp) := Zwt hsp Zws
def ZrW : FuncId → Option (List Value → Option Value) := fun _ => none
theorem ZmX : ZmW ZrW := fun f g h => by cases h
def ext1 : FuncId → Option Ext := extW ZrW
theorem fit1 : Fit Tryd.prog ext1 := fitW ZmX
theorem Zeq {β : Type} {b : Bool} {x e : β} {y : Option β} (h : (bif b then some x else y) = some e) : (b = true ∧ x = e) ∨ y = some e := by
  cases b with
  | true => injection h with h; exact .inl ⟨rfl, h⟩
  | false => exact .inr h
noncomputable def hp0 : FuncId → Option (Array Value → St → Out) := fun f =>
  bif Nat.beq f 39 then some ZoG else
  bif Nat.beq f 85 then some (Zmt Tryd.prog Extern.BytealgIndexByte.indexByte) else
  bif Nat.beq f 81 then some (Zmt Tryd.prog Extern.BytealgCount.count) else
  bif Nat.beq f 17 then some Zre else
  bif Nat.beq f 19 then some Zrf else
  bif Nat.beq f 26 then some ZmV else
  bif Nat.beq f 23 then some Zrg else
  bif Nat.beq f 58 then some Zu2 else
  bif Nat.beq f 60 then some ZoM else
  bif Nat.beq f 68 then some Zu3 else
   none
theorem Zvx : ZoP hp0 := by
  intro f g h
  unfold hp0 at h
  rcases Zeq h with ⟨hb, rfl⟩ | h
  · obtain rfl := Nat.eq_of_beq_eq_true hb; exact Zvr Tryd.func39 (by kernel_rfl) (by kernel_rfl) (by kernel_rfl) (by kernel_rfl)
  rcases Zeq h with ⟨hb, rfl⟩ | h
  · obtain rfl := Nat.eq_of_beq_eq_true hb; exact Zqy Tryd.func85 (by kernel_rfl) (by kernel_rfl) (by kernel_rfl) (by kernel_rfl)
  rcases Zeq h with ⟨hb, rfl⟩ | h
  · obtain rfl := Nat.eq_of_beq_eq_true hb; exact Zqy Tryd.func81 (by kernel_rfl) (by kernel_rfl) (by kernel_rfl) (by kernel_rfl)
  rcases Zeq h with ⟨hb, rfl⟩ | h
  · obtain rfl := Nat.eq_of_beq_eq_true hb; exact itoa_does
  rcases Zeq h with ⟨hb, rfl⟩ | h
  · obtain rfl := Nat.eq_of_beq_eq_true hb; exact join_does
  rcases Zeq h with ⟨hb, rfl⟩ | h
  · obtain rfl := Nat.eq_of_beq_eq_true hb; exact repeat_does
  rcases Zeq h with ⟨hb, rfl⟩ | h
  · obtain rfl := Nat.eq_of_beq_eq_true hb; exact Zvt
  rcases Zeq h with ⟨hb, rfl⟩ | h
  · obtain rfl := Nat.eq_of_beq_eq_true hb; exact cut_does
  rcases Zeq h with ⟨hb, rfl⟩ | h
  · obtain rfl := Nat.eq_of_beq_eq_true hb; exact split_does
  rcases Zeq h with ⟨hb, rfl⟩ | h
  · obtain rfl := Nat.eq_of_beq_eq_true hb; exact num_does
  cases h
noncomputable def Zmx : FuncId → Option Ext := Zp6 ZrW hp0
theorem ZnW : Fit Tryd.prog Zmx := Zwt ZmX Zvx
noncomputable def hp1 : FuncId → Option (Array Value → St → Out) := fun f =>
  bif Nat.beq f 30 then some (Zjj Tryd.prog Zmx 20000 30) else
   hp0 f
theorem Zxz : ZoP hp1 := by
  intro f g h
  unfold hp1 at h
  rcases Zeq h with ⟨hb, rfl⟩ | h
  · obtain rfl := Nat.eq_of_beq_eq_true hb; exact Zlz ZnW Tryd.func30 rfl
  exact Zvx f g h
noncomputable def ZrX (sp : FuncId → Option (List Value → Option Value)) : FuncId → Option Ext := Zp6 sp hp1
theorem Zu6 {sp : FuncId → Option (List Value → Option Value)} (hsp : ZmW sp) : Fit Tryd.prog (ZrX sp) := Zwt hsp Zxz
noncomputable def ext : FuncId → Option Ext := ZrX ZrW
theorem fit : Fit Tryd.prog ext := Zu6 ZmX
def Zmy (e : FuncId → Option Ext) (tc : FuncId → Bool) : FuncId → Option Ext := fun f => bif tc f then some (.tc (ZB Tryd.prog f)) else e f
theorem ZrY {e : FuncId → Option Ext} {tc : FuncId → Bool} (F : Fit Tryd.prog e) (hb : ∀ f, tc f = true → ∃ (fn : Func) (c : Code), Tryd.prog.funcs[f]? = some fn ∧ fn.body = some c) : Fit Tryd.prog (Zmy e tc) := by
  have cs : ∀ {f : Nat} {x : Ext}, Zmy e tc f = some x → (tc f = true ∧ x = .tc (ZB Tryd.prog f)) ∨ e f = some x := fun {f x} h => by
    unfold Zmy at h
    cases ht : tc f with
    | true => rw [ht] at h; injection h with h; exact .inl ⟨rfl, h.symm⟩
    | false => rw [ht] at h; exact .inr h
  refine ⟨F.mixed, F.go, fun f g hg => ?_, fun f g hg => ?_, fun f S hS => ?_, fun f n hn => ?_, fun f kk x hx => ?_⟩
  · rcases cs hg with ⟨_, h⟩ | h
    · cases h
    · exact F.fn f g h
  · rcases cs hg with ⟨_, h⟩ | h
    · cases h
    · exact F.hp f g h
  · rcases cs hS with ⟨ht, h⟩ | h
    · injection h with h; subst h; exact ⟨hb f ht, fun _ _ _ _ _ _ h => h⟩
    · exact F.tc f S h
  · rcases cs hn with ⟨_, h⟩ | h
    · cases h
    · exact F.mark f n h
  · rcases cs hx with ⟨_, h⟩ | h
    · cases h
    · exact F.ext f kk x h
def out (r : Out) : Option Value := match r with
  | some (v, s) => match s.ob with
    | [] => bif Zbv v && Nat.ble s.n 1000000000 then some v else none
    | _ => none
  | none => none
end Ev
end Go.Proofs.YtlbbiflodemagaaDoor
/- Arguments that hold no address: which cells they have. -/
namespace Go.Proofs.YtlbbiflodemagaaDoor
open Go.ChangeShapes Go.WideShapes Go.ChangeAt Go.RowKit
namespace Ev
section
variable {P : Program} {w : World} {r : Reach} {base : Nat}
theorem Zu7 {u : TypeId} {k : IntKind} {c : Value} (hu : P.underlying u = some (.int k)) (h : Cell.okWide P w r base u c) : ∃ n, c = .int k n ∧ k.has n := by
 unfold Cell.okWide Cell.ok at h
 rw [hu] at h
 cases c <;> simp at h
 obtain ⟨rfl, h⟩ := h
 exact ⟨_, rfl, h⟩
theorem ZoQ {u : TypeId} {c : Value} (hu : P.underlying u = some .string) (h : Cell.okWide P w r base u c) : ∃ b, c = .string b := by
 unfold Cell.okWide Cell.ok at h
 rw [hu] at h
 cases c <;> simp at h
 exact ⟨_, rfl⟩
theorem Zl3 {t : TypeId} {v : Value} (hu : (match P.underlying t with | some (.struct _) | some (.array _ _) => true | _ => false) = false) (h : Value.okWide P w r base t v) : Cell.okWide P w r base t v := by
 unfold Value.okWide at h
 split at h
 ·rename_i h1; rw [h1] at hu; cases hu
 ·rename_i h1; rw [h1] at hu; cases hu
 ·exact h
def Zw8 : Nat → List (Nat × Bool) → List (Option Bool)
 | _, [] => []
 | n, (i, b) :: l => List.replicate (i - n) none ++ (some b :: Zw8 (i + 1) l)
def Zw9 : Nat → List (Nat × Int) → List (Option Int)
 | _, [] => []
 | n, (i, b) :: l => List.replicate (i - n) none ++ (some b :: Zw9 (i + 1) l)
def Zrh {α : Type} : Nat → List (Nat × α) → List (Option α)
 | _, [] => []
 | n, (i, b) :: l => List.replicate (i - n) none ++ (some b :: Zrh (i + 1) l)
def Zs (b : List (Nat × Bool)) (v : List (Nat × Int)) (x : List (Nat × Nat)) (l : List (Nat × List Cell)) (w : List (Nat × Za8)) : Orc := ⟨Zw8 0 b, Zw9 0 v, Zrh 0 x, Zrh 0 l, Zrh 0 w⟩
theorem Z9 : ∀ p ∈ ([] : List (Bool × Bool)), p.1 = p.2 := by simp
theorem Zc {a b : Bool} {l : List (Bool × Bool)} (h : a = b) (hl : ∀ q ∈ l, q.1 = q.2) : ∀ q ∈ (a, b) :: l, q.1 = q.2 := by
 intro q hq
 rcases List.mem_cons.1 hq with rfl | hq
 ·exact h
 ·exact hl q hq
theorem Zx0 {x : Int} (h : -9223372036854775808 ≤ x ∧ x < 9223372036854775808) : IntKind.i64.wrap x = x := by
 rw [IntKind.wrap_i64]
 omega
theorem Ze6 {b : Int} (h : 0 ≤ b) : b = Int.ofNat b.toNat := (Int.toNat_of_nonneg h).symm
theorem Zvy {n m : Nat} (h : n < m) : Nat.blt n m = true := Nat.ble_eq_true_of_le h
end
end Ev
end Go.Proofs.YtlbbiflodemagaaDoor
/- How runs of functions with loops are written: what is looked at of a stop, and rows of numbers. -/
namespace Go.Proofs.YtlbbiflodemagaaDoor
open Go.RowKit
namespace Ev
/-! ### Where a loop stands -/
def Zdt : List Nat → Code → List ZaS → Code × List ZaS
  | [], .loop a, K => (a, K)
  | 0 :: p, .seq a b, K => Zdt p a (.seq b :: K)
  | 1 :: p, .seq _ b, K => Zdt p b K
  | 2 :: p, .scope a, K => Zdt p a (.scp :: K)
  | 3 :: p, .block i a, K => Zdt p a (.blk i :: K)
  | 4 :: p, .cond _ a _, K => Zdt p a K
  | 5 :: p, .cond _ _ b, K => Zdt p b K
  | (n + 6) :: p, .loop a, K => Zdt p a (.rnd n :: K)
  | _, _, K => (.skip, K)
def ZeZ (fn : Func) : Code := match fn.body with | some c => c | none => .skip
noncomputable section
def ZaL (live : List Nat) (r : Option Stop) : Option (Value × List (Option AObj) × List (Bool × Bool)) :=
  match r with
  | some (.fin u s) => bif Nat.ble s.n 1000000000 then some (u, live.map s.h.get, s.ob) else none
  | _ => none
end
theorem Zn9 {live : List Nat} {r : Option Stop} {u : Value} {bl : List (Option AObj)} {ob : List (Bool × Bool)} (h : ZaL live r = some (u, bl, ob)) : ∃ s, r = some (.fin u s) ∧ live.map s.h.get = bl ∧ s.ob = ob ∧ s.n ≤ far := by
  unfold ZaL at h
  split at h
  · rename_i u' s
    obtain ⟨hn, h⟩ := Zn h
    injection h with h
    simp only [Prod.mk.injEq] at h
    obtain ⟨rfl, rfl, rfl⟩ := h
    exact ⟨s, rfl, rfl, rfl, Nat.le_of_ble_eq_true hn⟩
  · cases h
def ZhN (ρ : Nat → Nat) : AObj → AObj → Prop
  | .ro O, .ro O' => O = O'
  | .ro O true, .ro O' true => O = O'
  | .cells c t, .cells c' t' => t = t' ∧ (∃ r, c.map (Za5 ρ 1) = c' ++ r) ∧ Z4 (Zau 1) c = true
  | .cells c t true, .cells c' t' true => t = t' ∧ c.map (Za5 ρ 1) = c' ∧ Z4 (Zau 1) c = true
  | _, _ => False
def ZbY (ρ : Nat → Nat) : List (Option AObj) → List (Option AObj) → Prop
  | _, [] => True
  | some o :: bl, some p :: l => ZhN ρ o p ∧ ZbY ρ bl l
  | _ :: bl, none :: l => ZbY ρ bl l
  | _, _ => False
def Zgf (ρ : Nat → Nat) : List (Option Value) → List (Nat × Value) → Prop
  | _, [] => True
  | some u :: tv, x :: l => (x.2 = Za5 ρ 3 u ∧ Zau 3 u = true) ∧ Zgf ρ tv l
  | _, _ => False
theorem ZfB {ρ : Nat → Nat} {h : AH} : ∀ {live : List Nat} {l : List (Option AObj)}, ZbY ρ (live.map h) l → ∀ j o, lkO l j = some o → ∃ k, live[j]? = some k ∧ match o with
      | .ro O m => h k = some (.ro O m)
      | .cells c t q => ∃ c' r, h k = some (.cells c' t q) ∧ c'.map (Za5 ρ 1) = c ++ r ∧ (q = true → r = []) ∧ Z4 (Zau 1) c' = true
  | live, [], _, j, o, hj => by simp [lkO] at hj
  | [], x :: l, hb, j, o, hj => by cases x <;> exact hb.elim
  | k :: live, none :: l, hb, j, o, hj => by
    have hb' : ZbY ρ (live.map h) l := by
      simp only [List.map_cons] at hb
      cases hk : h k <;> rw [hk] at hb <;> exact hb
    cases j with
    | zero => simp [lkO] at hj
    | succ j => obtain ⟨k', q1, q2⟩ := ZfB hb' j o (by simpa [lkO] using hj); exact ⟨k', by simpa using q1, q2⟩
  | k :: live, some p :: l, hb, j, o, hj => by
    simp only [List.map_cons] at hb
    cases hk : h k with
    | none => rw [hk] at hb; exact hb.elim
    | some o1 =>
      rw [hk] at hb
      cases j with
      | zero =>
        have : p = o := by simpa [lkO] using hj
        subst this
        refine ⟨k, rfl, ?_⟩
        have h1 := hb.1
        cases o1 with
        | cells c1 t1 q1 =>
          cases p with
          | cells c2 t2 q2 =>
            cases q1 <;> cases q2
            · simp only [ZhN] at h1; obtain ⟨rfl, ⟨r, hr⟩, hs⟩ := h1; exact ⟨_, r, hk, hr, (fun e => by cases e), hs⟩
            · exact h1.elim
            · exact h1.elim
            · simp only [ZhN] at h1; obtain ⟨rfl, hr, hs⟩ := h1; exact ⟨_, [], hk, by rw [hr, List.append_nil], fun _ => rfl, hs⟩
          | ro O2 m2 => cases q1 <;> cases m2 <;> exact h1.elim
        | ro O1 m1 =>
          cases p with
          | cells c2 t2 q2 => cases m1 <;> cases q2 <;> exact h1.elim
          | ro O2 m2 =>
            cases m1 <;> cases m2
            · obtain rfl : O1 = O2 := h1; exact hk
            · exact h1.elim
            · exact h1.elim
            · obtain rfl : O1 = O2 := h1; exact hk
      | succ j => obtain ⟨k', q1, q2⟩ := ZfB hb.2 j o (by simpa [lkO] using hj); exact ⟨k', by simpa using q1, q2⟩
theorem ZrZ {ρ : Nat → Nat} {T : Tr Value} : ∀ {l : List (Nat × Value)}, Zgf ρ ((l.map (·.1)).map T.get) l → ∀ t v, Za2 t l = some v → v = Za5 ρ 3 ((T.get t).getD undef) ∧ Zau 3 ((T.get t).getD undef) = true
  | [], _, t, v, h => by cases h
  | x :: l, ht, t, v, h => by
    simp only [List.map_cons] at ht
    cases hx : T.get x.1 with
    | none => rw [hx] at ht; exact ht.elim
    | some u =>
      rw [hx] at ht
      unfold Za2 at h
      cases hb : Nat.beq x.1 t with
      | true =>
        rw [hb] at h
        injection h with h
        obtain rfl := Nat.eq_of_beq_eq_true hb
        subst h
        rw [hx]
        exact ht.1
      | false => rw [hb] at h; exact ZrZ ht.2 t v h
section
variable {P : Program} {ext : FuncId → Option Ext}
end
/-! ### Rows of numbers -/
theorem wrap_i64 {x : Int} (h : -9223372036854775808 ≤ x ∧ x ≤ 9223372036854775807) : IntKind.i64.wrap x = x := Zx0 (by omega)
theorem Zxe {x : Int} (h : 0 ≤ x ∧ x ≤ 255) : IntKind.u8.wrap x = x := by
  have e : IntKind.u8.wrap x = x % 256 := by simp [IntKind.wrap, IntKind.bits, IntKind.signed]
  rw [e]; omega
theorem Zah {k o o' n n' c c' : Nat} (h1 : o = o') (h2 : n = n') (h3 : c = c') : Value.slice (some ⟨k, o, none⟩) n c = .slice (some ⟨k, o', none⟩) n' c' := by rw [h1, h2, h3]
theorem Ze {α : Type} {a b : α} {l r : List α} (h : a = b) (t : l = r) : a :: l = b :: r := by rw [h, t]
/-! ### Rows of bools -/
/-! ### Rows of the caller's -/
end Ev
end Go.Proofs.YtlbbiflodemagaaDoor
/- Calls that are told, from what is known of a function. -/
namespace Go.Proofs.YtlbbiflodemagaaDoor
open Go.RowKit
namespace Ev
section
variable {P : Program} {ext : FuncId → Option Ext}
def preL (κ : List Nat) (n : Nat) (pre : List AObj) : List (Nat × AObj) := κ.zip (pre.map (Zi9 (kap κ n)))
def ZwA (κ : List Nat) (n : Nat) (ch : List Nat) (post : List (Option AObj)) : List (Nat × Option AObj) := ch.map fun j => (kap κ n j, (lkO post j).map (Zi9 (kap κ n)))
def ZnX (m : Nat) : List AObj → Prop
 | [] => True
 | o :: l => ZkB m o = true ∧ ZnX m l
def Zkd (m : Nat) : List (Option AObj) → Prop
 | [] => True
 | some o :: l => ZkB m o = true ∧ Zkd m l
 | none :: l => Zkd m l
theorem Zq5 {m : Nat} : ∀ {l : List AObj}, ZnX m l → ∀ o ∈ l, ZkB m o = true
 | x :: l, h, o, ho => by
  rcases List.mem_cons.1 ho with rfl | ho
  ·exact h.1
  ·exact Zq5 h.2 o ho
theorem Zl4 {m : Nat} : ∀ {l : List (Option AObj)}, Zkd m l → ∀ o, some o ∈ l → ZkB m o = true
 | some x :: l, h, o, ho => by
  rcases List.mem_cons.1 ho with e | ho
  ·injection e with e; subst e; exact h.1
  ·exact Zl4 h.2 o ho
 | none :: l, h, o, ho => by
  rcases List.mem_cons.1 ho with e | ho
  ·cases e
  ·exact Zl4 (l := l) h o ho
def Zu8 (ch : List Nat) : Nat → List AObj → List (Option AObj) → Prop
 | _, _, [] => True
 | j, o :: l, p :: r => (j ∈ ch ∨ p = some o) ∧ Zu8 ch (j + 1) l r
 | j, [], _ :: r => j ∈ ch ∧ Zu8 ch (j + 1) [] r
theorem Zp7 {ch : List Nat} : ∀ {l : List AObj} {r : List (Option AObj)} {j : Nat}, Zu8 ch j l r → ∀ i, i < r.length → j + i ∈ ch ∨ (i < l.length ∧ r[i]? = some l[i]?)
 | o :: l, p :: r, j, h, 0, _ => by
  rcases h.1 with h | h
  ·exact .inl h
  ·exact .inr ⟨by simp, by simp [h]⟩
 | o :: l, p :: r, j, h, i + 1, hi => by
  rcases Zp7 h.2 i (by simpa using hi) with q | ⟨q1, q2⟩
  ·exact .inl (by rwa [show j + (i + 1) = j + 1 + i by omega])
  ·exact .inr ⟨by simpa using q1, by simpa using q2⟩
 | [], p :: r, j, h, 0, _ => .inl h.1
 | [], p :: r, j, h, i + 1, hi => by
  rcases Zp7 h.2 i (by simpa using hi) with q | ⟨q1, q2⟩
  ·exact .inl (by rwa [show j + (i + 1) = j + 1 + i by omega])
  ·simp at q1
theorem Zsa {α : Type} {k : Nat} {x : α} : ∀ {ks : List Nat} {l : List α} {j : Nat}, ks.Nodup → ks[j]? = some k → l[j]? = some x → Za2 k (ks.zip l) = some x
 | a :: ks, b :: l, 0, _, h1, h2 => by
  simp at h1 h2
  subst h1 h2
  simp [Za2]
 | a :: ks, b :: l, j + 1, hn, h1, h2 => by
  have hm : k ∈ ks := List.mem_of_getElem? (by simpa using h1)
  have hne : a ≠ k := fun e => by subst e; exact (List.nodup_cons.1 hn).1 hm
  show Za2 k ((a, b) :: ks.zip l) = _
  unfold Za2
  rw [Zhc hne]
  exact Zsa (List.nodup_cons.1 hn).2 (by simpa using h1) (by simpa using h2)
 | [], _, j, _, h1, _ => by simp at h1
 | a :: ks, [], j, _, _, h2 => by simp at h2
theorem Zsb {f : Nat → Nat} {g : Nat → Option AObj} (hf : ∀ i j, f i = f j → i = j) (j : Nat) : ∀ ch : List Nat, Za2 (f j) (ch.map fun i => (f i, g i)) = if j ∈ ch then some (g j) else none
 | [] => rfl
 | a :: ch => by
  show Za2 (f j) ((f a, g a) :: ch.map fun i => (f i, g i)) = _
  unfold Za2
  by_cases h : a = j
  ·subst h; rw [Zhd rfl]; simp
  ·rw [Zhc (fun e => h (hf _ _ e)), cond_false, Zsb hf j ch]
   simp [show ¬ j = a from fun e => h e.symm]
theorem LSpec.callL {f : FuncId} {A : Array Value} {pre : List AObj} {v : Value} {post : List (Option AObj)} (h : LSpec P f A pre v post) (κ : List Nat) (n : Nat) (ch : List Nat) (hκ : κ.length = pre.length) (hnd : κ.Nodup) (hlt : ∀ k ∈ κ, k < n) (hle : pre.length ≤ post.length) (hch : ∀ j ∈ ch, j < post.length)
  (hA : Z4 (ZbP pre.length 3) A.toList = true) (hpre : ZnX pre.length pre) (hv : (ZbP post.length 3 v || Zcs v) = true) (hpost : Zkd post.length post) (hk : Zu8 ch 0 pre post)
  {A' : Array Value} {pre' : List (Nat × AObj)} {v' : Value} {post' : List (Nat × Option AObj)} {dn : Nat} (eA : A' = Zhf (Za5 (kap κ n) 3) A) (ev : v' = Za5 (kap κ n) 3 v) (edn : pre.length + dn = post.length) (ep : pre' = preL κ n pre) (eq : post' = ZwA κ n ch post) : ZB P f A' pre' v' post' n dn := by
 have kl : ∀ j, j < pre.length → κ[j]? = some (kap κ n j) := fun j hj => ZoB (by omega)
 have kn : ∀ j, j < pre.length → kap κ n j < n := fun j hj => hlt _ (List.mem_of_getElem? (kl j hj))
 have kg : ∀ j, pre.length ≤ j → kap κ n j = n + (j - pre.length) := fun j hj => by rw [← hκ]; exact Zvn (by omega)
 have kinj : ∀ i j, kap κ n i = kap κ n j → i = j := fun i j hij => by
  rcases Nat.lt_or_ge i pre.length with h1 | h1 <;> rcases Nat.lt_or_ge j pre.length with h2 | h2
  ·have a := kl i h1
   have b := kl j h2
   rw [hij, ← b] at a
   exact (List.getElem?_inj (by omega) hnd).1 a
  ·have := kn i h1; rw [hij, kg j h2] at this; omega
  ·have := kn j h2; rw [← hij, kg i h1] at this; omega
  ·rw [kg i h1, kg j h2] at hij; omega
 have lp : ∀ j o, pre[j]? = some o → Za2 (kap κ n j) pre' = some (Zi9 (kap κ n) o) := fun j o ho => by
  subst ep
  have hj : j < pre.length := (List.getElem?_eq_some_iff.1 ho).1
  exact Zsa hnd (kl j hj) (by rw [List.getElem?_map, ho]; rfl)
 have ip : ∀ k o, Za2 k pre' = some o → ∃ j, j < pre.length ∧ k = kap κ n j := fun k o ho => by
  subst ep
  obtain ⟨j, hj1, hj2⟩ := List.getElem_of_mem (List.of_mem_zip (Zj2 ho)).1
  have hj : j < pre.length := by omega
  refine ⟨j, hj, ?_⟩
  have := kl j hj
  rw [List.getElem?_eq_getElem hj1, hj2] at this
  exact Option.some.inj this
 have lq : ∀ j, Za2 (kap κ n j) post' = if j ∈ ch then some ((lkO post j).map (Zi9 (kap κ n))) else none := fun j => by
  subst eq
  exact Zsb (g := fun j => (lkO post j).map (Zi9 (kap κ n))) kinj j ch
 refine h.call κ n hκ hnd hlt hle hA (Zq5 hpre) hv (Zl4 hpost) eA ev edn lp ip (fun j hj => ?_) (fun k o ho => ?_)
 ·unfold behind
  rw [lq j]
  rcases Zp7 hk j hj with hc | ⟨h1, h2⟩
  ·rw [Nat.zero_add] at hc
   rw [if_pos hc]
  ·by_cases hc : j ∈ ch
   ·rw [if_pos hc]
   ·rw [if_neg hc]
    have ho : pre[j]? = some pre[j] := List.getElem?_eq_getElem h1
    show Za2 (kap κ n j) pre' = _
    rw [lp j _ ho]
    simp [lkO, h2, ho]
 ·unfold behind at ho
  split at ho
  ·rename_i o' hl
   subst eq
   have := Zj2 hl
   unfold ZwA at this
   obtain ⟨j, hj, he⟩ := List.mem_map.1 this
   injection he with h1 h2
   exact ⟨j, hch j hj, h1.symm⟩
  ·obtain ⟨j, hj, hk⟩ := ip k o ho
   exact ⟨j, by omega, hk⟩
end
theorem Zj {α β : Type} {a a' : α} {b b' : β} (h : a = a') (k : b = b') : (a, b) = (a', b') := by rw [h, k]
theorem Za6 {α : Type} {a a' : α} (h : a = a') : some a = some a' := by rw [h]
theorem Zl5 {l r : List Value} (h : l = r) : l.toArray = r.toArray := by rw [h]
end Ev
end Go.Proofs.YtlbbiflodemagaaDoor
/- Functions of many loops: one behind the other, one in another. -/
namespace Go.Proofs.YtlbbiflodemagaaDoor
open Go.RowKit
namespace Ev
section
variable {P : Program} {ext : FuncId → Option Ext}
variable {fn : Func} {pre : List AObj} {v : Value} {po : List (Option AObj)} {X : Type} {m i : Nat} {L : X → List (Nat × Value)} {H : X → List AObj} {μ : X → Nat} {bd : X → List Nat} {Gb : List Nat → Ren → World → (Nat → Act → World → Prop) → Prop} {x : X} {c : Code} {K : List ZaS} {T0 : Tr Value} {fu : Nat} {orc : Orc} {live : List Nat} {bl : List (Option AObj)} {ob : List (Bool × Bool)}
end
/-! ### A law -/
theorem Zx1 (P : Program) {w : World} (ht : TabW w) : Emb P (ιMk w) (lk []) w := by
 rw [show lk [] = fun _ => none from funext fun k => by simp [lk]]
 exact ZwM P ht
theorem Zwu {v : Value} (h : Zbv v = true) : Zcs v = false := by
 cases hz : Zcs v with
 | false => rfl
 | true =>
  unfold Zcs at hz
  split at hz
  ·simp only [Zbv, ZaT, atom] at h
   simp [h] at hz
  ·cases hz
theorem Zvz {P : Program} {f : FuncId} {A : Array Value} {post : List (Option AObj)} {v : Value} (h : LSpec P f A [] v post) {w : World} {args' : Array Value} (ha : VRs (ιMk w) A args') (hv : Zbv v = true) (ht : TabW w := by first | assumption | (intro x hx; cases hx; done)) : Calls P f args' w (Ret v w) := by
 refine (h (ιMk w) w args' (fun k hk => ?_) ha (Zx1 P ht)).mono ?_
 ·cases hq : ιMk w k with
  | none => exact absurd hq hk
  | some q =>
   obtain ⟨b, base, id, rfl, _⟩ := ιMk_inv hq
   exact .inr (Zp0 b base id)
 ·rintro e w' (⟨v', ι', rfl, hS, _, hvr⟩ | ⟨ht, _⟩)
  rotate_left
  ·rw [Zwu hv] at ht; cases ht
  have := hvr.eq_of_free hv
  subst this
  exact ⟨rfl, hS.os, hS.tape, hS.output, hS.size, fun b hb => hS.frame b hb fun k c hk => by simp [lk, isC] at hk⟩
end Ev
end Go.Proofs.YtlbbiflodemagaaDoor
/- Arguments that are slices of structs of ints, opened, over any program. -/
namespace Go.Proofs.YtlbbiflodemagaaDoor
open Go.ChangeShapes Go.WideShapes Go.ChangeAt Go.RowKit Go.Deep
section
variable {H : Type} {enc : TypeId × Value → H} {P : Program} {w : World}

end
end Go.Proofs.YtlbbiflodemagaaDoor
/- Arguments that are rows of numbers: blocks of the caller's, that are read alone. -/
namespace Go.Proofs.YtlbbiflodemagaaDoor
open Go.ChangeShapes Go.WideShapes Go.ChangeAt Go.RowKit
namespace Ev
section
variable {P : Program} {w : World}
end
end Ev
end Go.Proofs.YtlbbiflodemagaaDoor
/- The runner, with places to stop at: where a way on of a given depth begins, so many of them left out. -/
namespace Go.Proofs.YtlbbiflodemagaaDoor
open Go.RowKit
namespace Ev
inductive StopC where
 | fin (v : Value) (s : St)
 | head (a : Code) (K : List ZaS) (T : Tr Value) (s : St)
 | next (i : Nat) (T : Tr Value) (s : St)
 | cut (b : Code) (K : List ZaS) (T : Tr Value) (s : St)
 | thr (u : Value) (s : St)
noncomputable section
def StopC.s : StopC → St
 | .fin _ s => s
 | .head _ _ _ s => s
 | .next _ _ s => s
 | .cut _ _ _ s => s
 | .thr _ s => s
def Zsc (s : St) : Option Value → Option StopC
 | some v => some (.fin v s)
 | none => none
def Zsd : Option (Value × Tr Value × St) → Option StopC
 | some (u, _, s) => bif Zcs u then some (.thr u s) else none
 | none => none
def Zv0 (P : Program) (fn : Func) (e : Ex) (T : Tr Value) (s : St) : Option StopC :=
 match e with
 | .exit _ => none
 | .normal => Zsc s (Zus P fn T s)
 | .ret => Zsc s (Zus P fn T s)
mutual
def Zee (P : Program) (ext : FuncId → Option Ext) (fn : Func) (nt : Nat) (cd : Nat) : Nat → Nat → Code → List ZaS → Tr Value → St → Option StopC
 | 0, _, _, _, _, _ => none
 | fu + 1, cm, c, K, T, s => match c with
  | .seq a b => Zee P ext fn nt cd fu cm a (.seq b :: K) T s
  | .scope a => Zee P ext fn nt cd fu cm a (.scp :: K) T s
  | .block id a => Zee P ext fn nt cd fu cm a (.blk id :: K) T s
  | .cond x a b => match opnd T x with
   | .bool t => match t with
    | true => Zee P ext fn nt cd fu cm a K T s
    | false => Zee P ext fn nt cd fu cm b K T s
   | _ => none
  | .loop a => some (.head a K T s)
  | c => match Zal P ext nt fu c T s with
   | some (e, T', s') => Zct P ext fn nt cd fu cm K e T' s'
   | none => Zsd (ZaX P ext nt (Zd8 P ext fu) fu c T s)
termination_by structural fu _ _ _ _ _ => fu
def Zct (P : Program) (ext : FuncId → Option Ext) (fn : Func) (nt : Nat) (cd : Nat) : Nat → Nat → List ZaS → Ex → Tr Value → St → Option StopC
 | 0, _, _, _, _, _ => none
 | fu + 1, cm, K, e, T, s => match K with
  | [] => Zv0 P fn e T s
  | .seq b :: K => match e with
   | .normal => match Nat.beq K.length cd with
    | false => Zee P ext fn nt cd fu cm b K T s
    | true => match cm with
     | 0 => some (.cut b K T s)
     | m + 1 => Zee P ext fn nt cd fu m b K T s
   | .exit i => Zct P ext fn nt cd fu cm K (.exit i) T s
   | .ret => Zct P ext fn nt cd fu cm K .ret T s
  | .blk id :: K => match e with
   | .exit i => bif Nat.beq i id then Zct P ext fn nt cd fu cm K .normal T s else Zct P ext fn nt cd fu cm K (.exit i) T s
   | .normal => Zct P ext fn nt cd fu cm K .normal T s
   | .ret => Zct P ext fn nt cd fu cm K .ret T s
  | .scp :: K => Zct P ext fn nt cd fu cm K e T s
  | .rnd i :: K => match e with
   | .normal => some (.next i T s)
   | .exit j => Zct P ext fn nt cd fu cm K (.exit j) T s
   | .ret => Zct P ext fn nt cd fu cm K .ret T s
termination_by structural fu _ _ _ _ _ => fu
end
end
section
variable {P : Program} {ext : FuncId → Option Ext}
theorem Zse {s : St} {o : Option Value} {st : StopC} (h : Zsc s o = some st) : ∃ v, st = .fin v s ∧ o = some v := by
 cases o with
 | none => cases h
 | some v => injection h with h; exact ⟨v, h.symm, rfl⟩
theorem Zsf {fn : Func} {e : Ex} {T : Tr Value} {s : St} {st : StopC} (h : Zv0 P fn e T s = some st) : ∃ v, st = .fin v s ∧ (match e with | .exit _ => False | _ => True) ∧ (match ZaW P T s fn.results.toList with | some [v] => some v | some vs => some (.tuple vs.toArray) | none => none) = some v := by
 cases e with
 | exit i => cases h
 | normal => obtain ⟨v, h1, h2⟩ := Zse h; exact ⟨v, h1, trivial, h2⟩
 | ret => obtain ⟨v, h1, h2⟩ := Zse h; exact ⟨v, h1, trivial, h2⟩
theorem Zq6 {o : Option (Value × Tr Value × St)} {st : StopC} (h : Zsd o = some st) : ∃ u T s, o = some (u, T, s) ∧ Zcs u = true ∧ st = .thr u s := by
 unfold Zsd at h
 split at h
 ·rename_i u T s
  obtain ⟨h1, h2⟩ := Zn h
  injection h2 with h2
  exact ⟨u, T, s, rfl, h1, h2.symm⟩
 ·cases h
theorem Zsg (F : Fit P ext) {fn : Func} {nt cd : Nat} : ∀ fu : Nat, (∀ cm c K T s st, Zee P ext fn nt cd fu cm c K T s = some st → Up s st.s) ∧ (∀ cm K e T s st, Zct P ext fn nt cd fu cm K e T s = some st → Up s st.s) := by
 intro fu
 induction fu with
 | zero => exact ⟨fun _ _ _ _ _ _ h => by simp [Zee] at h, fun _ _ _ _ _ _ h => by simp [Zct] at h⟩
 | succ fu ih =>
  obtain ⟨ihT, ihB⟩ := ih
  have other : ∀ cm c K T s st, (match Zal P ext nt fu c T s with | some (e, T', s') => Zct P ext fn nt cd fu cm K e T' s' | none => Zsd (ZaX P ext nt (Zd8 P ext fu) fu c T s)) = some st → Up s st.s := fun cm c K T s st h => by
   split at h
   ·exact ((Zbf (P := P) (ext := ext) (fun f g hg => (F.hp f g hg).up) fu).1 _ _ _ _ _ _ _ (by assumption)).trans (ihB _ _ _ _ _ _ h)
   ·obtain ⟨u, T', s', hx, _, rfl⟩ := Zq6 h
    exact ZhK F (Zlw F fu) fu _ _ _ _ _ _ hx
  refine ⟨fun cm c K T s st h => ?_, fun cm K e T s st h => ?_⟩
  ·cases c <;> simp only [Zee] at h
   case seq a b => exact ihT _ _ _ _ _ _ h
   case scope a => exact ihT _ _ _ _ _ _ h
   case block id a => exact ihT _ _ _ _ _ _ h
   case cond x a b =>
    split at h
    ·split at h
     ·exact ihT _ _ _ _ _ _ h
     ·exact ihT _ _ _ _ _ _ h
    ·cases h
   case loop a => injection h with h; subst h; exact Up.refl _
   all_goals exact other _ _ _ _ _ _ h
  ·cases K with
   | nil => simp only [Zct] at h; obtain ⟨v, rfl, _⟩ := Zsf h; exact Up.refl _
   | cons k K =>
    cases k <;> simp only [Zct] at h
    ·cases e <;> simp only at h
     ·split at h
      ·exact ihT _ _ _ _ _ _ h
      ·split at h
       ·injection h with h; subst h; exact Up.refl _
       ·exact ihT _ _ _ _ _ _ h
     ·exact ihB _ _ _ _ _ _ h
     ·exact ihB _ _ _ _ _ _ h
    ·cases e <;> simp only at h
     ·exact ihB _ _ _ _ _ _ h
     ·rename_i id i
      cases hb : Nat.beq i id <;> rw [hb] at h <;> exact ihB _ _ _ _ _ _ h
     ·exact ihB _ _ _ _ _ _ h
    ·exact ihB _ _ _ _ _ _ h
    ·cases e <;> simp only at h
     ·injection h with h; subst h; exact Up.refl _
     ·exact ihB _ _ _ _ _ _ h
     ·exact ihB _ _ _ _ _ _ h
def Zmz (P : Program) (fn : Func) (R : Ending → World → Prop) (Nx : Nat → Act → World → Prop) (nt : Nat) (ι : Ren) (a : Act) (w : World) : StopC → Prop
 | .fin v _ => ∀ v', VR ι v v' → R (.returned v') w
 | .head b K T _ => TR ι nt [] T a → (Code.loop b).wp P (post P fn R Nx K) a w
 | .next i T _ => TR ι nt [] T a → Nx i a w
 | .cut b K T _ => TR ι nt [] T a → b.wp P (post P fn R Nx K) a w
 | .thr u _ => Zcs u = true → R (.panicked (Ze0 u)) w
theorem Zhk {fn : Func} {R : Ending → World → Prop} {Nx : Nat → Act → World → Prop} {ch : List PanicEntry} {a : Act} {w : World} (ha : a.defers = []) (h : R (.panicked ch) w) : ∀ K : List ZaS, post P fn R Nx K (.panic ch) a w
 | [] => ⟨ha, h⟩
 | .seq b :: K => Zhk ha h K
 | .blk id :: K => Zhk ha h K
 | .scp :: K => Zhk ha h K
 | .rnd i :: K => Zhk ha h K
theorem Zq7 (F : Fit P ext) {fn : Func} {nt cd : Nat} {R : Ending → World → Prop} {Nx : Nat → Act → World → Prop} : ∀ fu : Nat,
  (∀ cm c K T s st, Zee P ext fn nt cd fu cm c K T s = some st → (∀ p ∈ st.s.ob, p.1 = p.2) → ∀ ι a w, TR ι nt [] T a → Emb P ι s.h.get w → Fresh ι s.n st.s.n →
   (∀ ι' a' w', Step P ι s.h.get w ι' st.s.h.get w' → Dom ι ι' s.n st.s.n → Zmz P fn R Nx nt ι' a' w' st) → c.wp P (post P fn R Nx K) a w) ∧
  (∀ cm K e T s st, Zct P ext fn nt cd fu cm K e T s = some st → (∀ p ∈ st.s.ob, p.1 = p.2) → ∀ ι a w, TR ι nt [] T a → Emb P ι s.h.get w → Fresh ι s.n st.s.n →
   (∀ ι' a' w', Step P ι s.h.get w ι' st.s.h.get w' → Dom ι ι' s.n st.s.n → Zmz P fn R Nx nt ι' a' w' st) → post P fn R Nx K e.out a w) := by
 intro fu
 induction fu with
 | zero => exact ⟨fun _ _ _ _ _ _ h => by simp [Zee] at h, fun _ _ _ _ _ _ h => by simp [Zct] at h⟩
 | succ fu ih =>
  obtain ⟨ihT, ihB⟩ := ih
  have other : ∀ cm c K T s st, (match Zal P ext nt fu c T s with | some (e, T', s') => Zct P ext fn nt cd fu cm K e T' s' | none => Zsd (ZaX P ext nt (Zd8 P ext fu) fu c T s)) = some st → (∀ p ∈ st.s.ob, p.1 = p.2) → ∀ ι a w, TR ι nt [] T a → Emb P ι s.h.get w → Fresh ι s.n st.s.n →
   (∀ ι' a' w', Step P ι s.h.get w ι' st.s.h.get w' → Dom ι ι' s.n st.s.n → Zmz P fn R Nx nt ι' a' w' st) → c.wp P (post P fn R Nx K) a w := fun cm c K T s st h ho ι a w hT he hf hQ => by
   split at h
   ·rename_i e T1 s1 h1
    have u1 := (Zbf (P := P) (ext := ext) (fun f g hg => (F.hp f g hg).up) fu).1 _ _ _ _ _ _ _ h1
    have u2 := (Zsg F (fn := fn) (nt := nt) fu).2 _ _ _ _ _ _ h
    refine wp_mono (Zw5 F h1 (Zai u2.ob ho) hT he (hf.mono (Nat.le_refl _) u2.n)) ?_
    rintro ex a1 w1 ⟨rfl, ι1, g1, g2, g3⟩
    exact ihB _ K e T1 s1 st h ho ι1 a1 w1 g3 g1.emb (hf.after g2 u1.n) fun ι' a' w' k1 k2 => hQ ι' a' w' (g1.trans k1) (g2.trans k2 u1.n u2.n)
   ·obtain ⟨u, T', s', hx, ht, rfl⟩ := Zq6 h
    refine wp_mono ((Zo9 F (Zlw F fu) fu).1 c T s u T' s' hx ho ι [] a w hT he hf) ?_
    rintro ex a1 w1 ⟨ι1, rfl, g1, g2, g3⟩
    exact Zhk g3.2.1 (hQ ι1 a1 w1 g1 g2 ht) K
  refine ⟨fun cm c K T s st h ho ι a w hT he hf hQ => ?_, fun cm K e T s st h ho ι a w hT he hf hQ => ?_⟩
  ·have h0 := h
   cases c <;> simp only [Zee] at h
   case seq x y => exact wp_seq (ihT _ x (.seq y :: K) T s st h ho ι a w hT he hf hQ)
   case scope x => exact wp_scope_straight (ihT _ x (.scp :: K) T s st h ho ι a w hT he hf hQ)
   case block id x => exact wp_block (ihT _ x (.blk id :: K) T s st h ho ι a w hT he hf hQ)
   case cond x y z =>
    split at h
    ·rename_i t ht
     have hx : a.eval x = .bool t := Zdv ((ht ▸ hT.opnd x : VR ι (.bool t) (Zbj a x)).bool_inv)
     split at h
     ·exact wp_cond_true hx (ihT _ y K T s st h ho ι a w hT he hf hQ)
     ·exact wp_cond_false hx (ihT _ z K T s st h ho ι a w hT he hf hQ)
    ·cases h
   case loop x =>
    injection h with h
    subst h
    exact hQ ι a w (Step.refl he) Dom.refl hT
   all_goals exact other _ _ K T s st h ho ι a w hT he hf hQ
  ·cases K with
   | nil =>
    simp only [Zct] at h
    obtain ⟨v, rfl, hne, hr⟩ := Zsf h
    obtain ⟨v', hrun, hv⟩ := Zcp hT he hr
    have := hQ ι a w (Step.refl he) Dom.refl v' hv
    cases e with
    | normal => exact ⟨hT.2.1, v', hrun, this⟩
    | ret => exact ⟨hT.2.1, v', hrun, this⟩
    | exit i => exact hne.elim
   | cons k K =>
    cases k with
    | seq b =>
     simp only [Zct] at h
     cases e with
     | normal =>
      simp only at h
      split at h
      ·exact ihT _ b K T s st h ho ι a w hT he hf hQ
      ·split at h
       ·injection h with h
        subst h
        exact hQ ι a w (Step.refl he) Dom.refl hT
       ·exact ihT _ b K T s st h ho ι a w hT he hf hQ
     | exit i => exact ihB _ K (.exit i) T s st h ho ι a w hT he hf hQ
     | ret => exact ihB _ K .ret T s st h ho ι a w hT he hf hQ
    | blk id =>
     simp only [Zct] at h
     cases e with
     | normal => exact ihB _ K .normal T s st h ho ι a w hT he hf hQ
     | ret => exact ihB _ K .ret T s st h ho ι a w hT he hf hQ
     | exit i =>
      simp only at h
      show if i = id then _ else _
      cases hb : Nat.beq i id with
      | true =>
       rw [hb] at h
       rw [if_pos (Nat.eq_of_beq_eq_true hb)]
       exact ihB _ K .normal T s st h ho ι a w hT he hf hQ
      | false =>
       rw [hb] at h
       rw [if_neg (fun e => by rw [Zhd e] at hb; cases hb)]
       exact ihB _ K (.exit i) T s st h ho ι a w hT he hf hQ
    | scp =>
     simp only [Zct] at h
     have := ihB _ K e T s st h ho ι a w hT he hf hQ
     cases e <;> exact this
    | rnd i =>
     simp only [Zct] at h
     cases e with
     | normal =>
      injection h with h
      subst h
      exact hQ ι a w (Step.refl he) Dom.refl hT
     | exit j => exact ihB _ K (.exit j) T s st h ho ι a w hT he hf hQ
     | ret => exact ihB _ K .ret T s st h ho ι a w hT he hf hQ
end
noncomputable section
def ZmY (live : List Nat) (r : Option StopC) : Option (Value × List (Option AObj) × List (Bool × Bool)) :=
 match r with
 | some (.fin u s) => bif Nat.ble s.n 500000000 then some (u, live.map s.h.get, s.ob) else none
 | _ => none
def Zsh (r : Option StopC) : Option (Value × List (Bool × Bool)) :=
 match r with
 | some (.thr u s) => bif Nat.ble s.n 500000000 then some (u, s.ob) else none
 | _ => none
def Zl6 (i : Nat) (live temps : List Nat) (r : Option StopC) : Option (List (Option Value) × List (Option AObj) × List (Bool × Bool)) :=
 match r with
 | some (.next j T s) => bif Nat.beq j i && Nat.ble s.n 500000000 then some (temps.map T.get, live.map s.h.get, s.ob) else none
 | _ => none
def Zj4 (live temps : List Nat) (r : Option StopC) : Option ((Code × List ZaS) × List (Option Value) × List (Option AObj) × List (Bool × Bool)) :=
 match r with
 | some (.head b K T s) => bif Nat.ble s.n 500000000 then some ((b, K), temps.map T.get, live.map s.h.get, s.ob) else none
 | _ => none
def Zsi (live temps : List Nat) (r : Option StopC) : Option ((Code × List ZaS) × List (Option Value) × List (Option AObj) × List (Bool × Bool)) :=
 match r with
 | some (.cut b K T s) => bif Nat.ble s.n 500000000 then some ((b, K), temps.map T.get, live.map s.h.get, s.ob) else none
 | _ => none
end
theorem Zm0 {live : List Nat} {r : Option StopC} {u : Value} {bl : List (Option AObj)} {ob : List (Bool × Bool)} (h : ZmY live r = some (u, bl, ob)) : ∃ s, r = some (.fin u s) ∧ live.map s.h.get = bl ∧ s.ob = ob ∧ s.n ≤ 500000000 := by
 unfold ZmY at h
 split at h
 ·rename_i u' s
  obtain ⟨hn, h⟩ := Zn h
  injection h with h
  simp only [Prod.mk.injEq] at h
  obtain ⟨rfl, rfl, rfl⟩ := h
  exact ⟨s, rfl, rfl, rfl, Nat.le_of_ble_eq_true hn⟩
 ·cases h
theorem Ztg {r : Option StopC} {u : Value} {ob : List (Bool × Bool)} (h : Zsh r = some (u, ob)) : ∃ s, r = some (.thr u s) ∧ s.ob = ob ∧ s.n ≤ 500000000 := by
 unfold Zsh at h
 split at h
 ·rename_i u' s
  obtain ⟨hn, h⟩ := Zn h
  injection h with h
  simp only [Prod.mk.injEq] at h
  obtain ⟨rfl, rfl⟩ := h
  exact ⟨s, rfl, rfl, Nat.le_of_ble_eq_true hn⟩
 ·cases h
theorem ZlH {i : Nat} {live temps : List Nat} {r : Option StopC} {tv : List (Option Value)} {bl : List (Option AObj)} {ob : List (Bool × Bool)} (h : Zl6 i live temps r = some (tv, bl, ob)) : ∃ T s, r = some (.next i T s) ∧ temps.map T.get = tv ∧ live.map s.h.get = bl ∧ s.ob = ob ∧ s.n ≤ 500000000 := by
 unfold Zl6 at h
 split at h
 ·rename_i j T s
  obtain ⟨hn, h⟩ := Zn h
  simp only [Bool.and_eq_true] at hn
  injection h with h
  simp only [Prod.mk.injEq] at h
  obtain ⟨rfl, rfl, rfl⟩ := h
  exact ⟨T, s, by rw [Nat.eq_of_beq_eq_true hn.1], rfl, rfl, rfl, Nat.le_of_ble_eq_true hn.2⟩
 ·cases h
theorem ZiB {live temps : List Nat} {r : Option StopC} {bK : Code × List ZaS} {tv : List (Option Value)} {bl : List (Option AObj)} {ob : List (Bool × Bool)} (h : Zj4 live temps r = some (bK, tv, bl, ob)) : ∃ T s, r = some (.head bK.1 bK.2 T s) ∧ temps.map T.get = tv ∧ live.map s.h.get = bl ∧ s.ob = ob ∧ s.n ≤ 500000000 := by
 unfold Zj4 at h
 split at h
 ·rename_i b K T s
  obtain ⟨hn, h⟩ := Zn h
  injection h with h
  simp only [Prod.mk.injEq] at h
  obtain ⟨rfl, rfl, rfl, rfl⟩ := h
  exact ⟨T, s, rfl, rfl, rfl, rfl, Nat.le_of_ble_eq_true hn⟩
 ·cases h
theorem Zth {live temps : List Nat} {r : Option StopC} {bK : Code × List ZaS} {tv : List (Option Value)} {bl : List (Option AObj)} {ob : List (Bool × Bool)} (h : Zsi live temps r = some (bK, tv, bl, ob)) : ∃ T s, r = some (.cut bK.1 bK.2 T s) ∧ temps.map T.get = tv ∧ live.map s.h.get = bl ∧ s.ob = ob ∧ s.n ≤ 500000000 := by
 unfold Zsi at h
 split at h
 ·rename_i b K T s
  obtain ⟨hn, h⟩ := Zn h
  injection h with h
  simp only [Prod.mk.injEq] at h
  obtain ⟨rfl, rfl, rfl, rfl⟩ := h
  exact ⟨T, s, rfl, rfl, rfl, rfl, Nat.le_of_ble_eq_true hn⟩
 ·cases h
section
variable {P : Program} {ext : FuncId → Option Ext}
theorem Zv1 (F : Fit P ext) {f : FuncId} {fn : Func} {c : Code} (hfn : P.funcs[f]? = some fn) (hb : fn.body = some c) {A : Array Value} {pre : List AObj} {v : Value} {post : List (Option AObj)} (hA : Nat.ble A.size fn.ntmps = true) {fu : Nat} {orc : Orc} {cd cm : Nat} {st : StopC}
  (hev : Zee P ext fn fn.ntmps cd fu cm c [] (ZcO 0 A.toList .nil) ⟨Zeb 0 pre, pre.length, [], orc, []⟩ = some st) (ho : ∀ p ∈ st.s.ob, p.1 = p.2) (hn : st.s.n ≤ far)
  (hto : ∀ ι0 w0, (∀ k, ι0 k ≠ none → k < pre.length ∨ Zf9 k) → ∀ ι' a' w', Step P ι0 (lk pre) w0 ι' st.s.h.get w' → Dom ι0 ι' pre.length st.s.n → Zmz P fn (Fin P ι0 pre w0 v post) (fun _ _ _ => False) fn.ntmps ι' a' w' st) : LSpec P f A pre v post := by
 intro ι w args' hd ha he
 refine calls_of_wp hfn hb ?_
 have := (Zq7 F (R := Fin P ι pre w v post) (Nx := fun _ _ _ => False) fu).1 cm c [] _ _ st hev ho ι _ w (Ze2 ha (Nat.le_of_ble_eq_true hA)) (by show Emb P ι (Zeb 0 pre).get w; rw [ZfA]; exact he)
  ⟨hn, fun k h1 h2 => by
   cases hk : ι k with
   | none => rfl
   | some b => exact absurd (hd k (by rw [hk]; simp)) (by have h3 : pre.length ≤ k := h1; have h4 : st.s.n ≤ 1000000000 := hn; have h5 : k < st.s.n := h2; unfold Zf9; omega)⟩
  (fun ι' a' w' g1 g2 => hto ι w hd ι' a' w' (by have := g1; simp only [ZfA] at this; exact this) g2)
 exact this
end
end Ev
end Go.Proofs.YtlbbiflodemagaaDoor
/- Functions of loops as machines: states at loops' heads, and a step from each to the next one. -/
namespace Go.Proofs.YtlbbiflodemagaaDoor
open Go.RowKit
namespace Ev
def ZJ : List ZaS → List Nat
  | [] => []
  | .rnd i :: K => i :: ZJ K
  | .seq _ :: K => ZJ K
  | .blk _ :: K => ZJ K
  | .scp :: K => ZJ K
def ZcV {X R : Type} (step : X → Option (X ⊕ R)) : Nat → X → Option R
  | 0, _ => none
  | n + 1, x => match step x with
    | none => none
    | some (.inl y) => ZcV step n y
    | some (.inr r) => some r
def goM {X R : Type} (step : X → Option (X ⊕ R)) (n : Nat) (o : Option (X ⊕ R)) : Option R :=
  match o with
  | none => none
  | some (.inl y) => ZcV step n y
  | some (.inr r) => some r
theorem Zaq (n : Nat) (h : Nat.ble n 1000000000 = true) : n ≤ far := Nat.le_of_ble_eq_true h
theorem Zq8 {P : Program} {c : Code} {Q : Exit → Act → World → Prop} : ∀ (n m : Nat), n ≤ m → ∀ a w, Code.rounds P c Q n a w → Code.rounds P c Q m a w
  | 0, _, _, _, _, h => h.elim
  | n + 1, 0, hm, _, _, _ => by omega
  | n + 1, m + 1, hm, a, w, h => by
    rw [rounds_succ] at h ⊢
    refine wp_mono h ?_
    intro e a' w' h'
    cases e with
    | normal => exact Zq8 n m (by omega) a' w' h'
    | exit i => exact h'
    | goto l => exact h'
    | ret => exact h'
    | panic ch => exact h'
    | outgrown => exact h'
theorem Zg0 {P : Program} {fn : Func} {R : Ending → World → Prop} {Nx Nx' : Nat → Act → World → Prop} : ∀ {K : List ZaS}, (∀ j ∈ ZJ K, Nx' j = Nx j) → post P fn R Nx' K = post P fn R Nx K
  | [], _ => rfl
  | .seq b :: K, h => by simp only [post]; rw [Zg0 (K := K) h]
  | .blk id :: K, h => by simp only [post]; rw [Zg0 (K := K) h]
  | .scp :: K, h => by simp only [post]; rw [Zg0 (K := K) h]
  | .rnd j :: K, h => by
    simp only [post]
    rw [Zg0 (K := K) fun j hj => h j (List.mem_cons_of_mem _ hj), h j (List.mem_cons_self ..)]
noncomputable def Zhl : Nat → List (Option AObj) → Tr AObj
  | _, [] => .nil
  | i, none :: l => Zhl (i + 1) l
  | i, some o :: l => (Zhl (i + 1) l).set i (some o)
theorem Zm1 : ∀ (l : List (Option AObj)) (i k : Nat), (Zhl i l).get k = if i ≤ k then (l[k - i]?).join else none
  | [], i, k => by
    show (Tr.nil : Tr AObj).get k = _
    rw [Tr.get_nil]
    split <;> simp
  | none :: l, i, k => by
    show (Zhl (i + 1) l).get k = _
    rw [Zm1 l (i + 1) k]
    by_cases h : i + 1 ≤ k
    · rw [if_pos h, if_pos (by omega)]
      have : k - i = (k - (i + 1)) + 1 := by omega
      rw [this, List.getElem?_cons_succ]
    · rw [if_neg h]
      by_cases hk : i ≤ k
      · rw [if_pos hk, show k - i = 0 by omega]; rfl
      · rw [if_neg hk]
  | some o :: l, i, k => by
    show ((Zhl (i + 1) l).set i (some o)).get k = _
    rw [Tr.get_set]
    by_cases hk : k = i
    · subst hk; rw [Zw, if_pos (Nat.le_refl _)]; simp
    · rw [Zm hk, Zm1 l (i + 1) k]
      by_cases h : i + 1 ≤ k
      · rw [if_pos h, if_pos (by omega)]
        have : k - i = (k - (i + 1)) + 1 := by omega
        rw [this, List.getElem?_cons_succ]
      · rw [if_neg h, if_neg (by omega)]
theorem ZnY (l : List (Option AObj)) : (Zhl 0 l).get = lkO l := funext fun k => by rw [Zm1]; simp [lkO]
theorem ZhO {nt m : Nat} {lt : List (Nat × Value)} {H : List (Option AObj)} {T : Tr Value} {s : St} {live : List Nat} (hl : live.length = m) (hn : live.Nodup) (ht : Zgf (rho live far) ((lt.map (·.1)).map T.get) lt) (hb : ZbY (rho live far) (live.map s.h.get) H) : Into nt m (fun t => Za2 t lt) (Zhl 0 H) T s live := by
  refine ⟨hl, hn, fun t v _ h => ZrZ ht t v h, fun j o ho => ?_⟩
  rw [ZnY] at ho
  exact ZfB hb j o ho
/-! ### A slice of no room may stand for a nil one -/
def WkV (x y : Value) : Prop := x = y ∨ (x = .slice none 0 0 ∧ ∃ A : Addr, y = .slice (some A) 0 0)
def WkC : List Value → List Value → Prop
  | [], [] => True
  | x :: l, y :: m => WkV x y ∧ WkC l m
  | _, _ => False
def WkO (a b : Option AObj) : Prop := a = b ∨ (∃ c c' t q, a = some (.cells c t q) ∧ b = some (.cells c' t q) ∧ WkC c c') ∨ ∃ c c' t, a = some (.cells c t) ∧ b = some (.cells c' t true) ∧ WkC c c' ∧ c' ≠ []
def WkL : List (Option AObj) → List (Option AObj) → Prop
  | [], [] => True
  | a :: l, b :: m => WkO a b ∧ WkL l m
  | _, _ => False
theorem WkL.refl : ∀ l, WkL l l
  | [] => trivial
  | _ :: l => ⟨.inl rfl, WkL.refl l⟩
theorem WkL.len : ∀ {l m}, WkL l m → l.length = m.length
  | [], [], _ => rfl
  | _ :: l, _ :: m, h => congrArg (· + 1) h.2.len
  | [], _ :: _, h => h.elim
  | _ :: _, [], h => h.elim
theorem WkL.at_ : ∀ {l m}, WkL l m → ∀ k, WkO (lkO l k) (lkO m k)
  | [], [], _, k => .inl rfl
  | a :: l, b :: m, h, 0 => by simpa [lkO] using h.1
  | a :: l, b :: m, h, k + 1 => by
    have := h.2.at_ k
    simpa [lkO] using this
  | [], _ :: _, h, _ => h.elim
  | _ :: _, [], h, _ => h.elim
theorem WkV.vr {ι : Ren} {x y r : Value} (h : WkV x y) (hv : VR ι x r) : VR ι y r := by
  rcases h with rfl | ⟨rfl, A, rfl⟩
  · exact hv
  · cases hv with
    | atom h => exact .slice0 fun _ => rfl
theorem WkC.cells : ∀ {c c' : List Value}, WkC c c' → c.length = c'.length ∧ ∀ (i : Nat) y, c'[i]? = some y → ∃ x, c[i]? = some x ∧ WkV x y
  | [], [], _ => ⟨rfl, fun i y h => by simp at h⟩
  | x :: l, y :: m, h => by
    obtain ⟨h1, h2⟩ := h.2.cells
    refine ⟨congrArg (· + 1) h1, fun i z hz => ?_⟩
    cases i with
    | zero => exact ⟨x, rfl, by have : y = z := by simpa using hz
                                exact this ▸ h.1⟩
    | succ i =>
      obtain ⟨x', q1, q2⟩ := h2 i z (by simpa using hz)
      exact ⟨x', by simpa using q1, q2⟩
  | [], _ :: _, h => h.elim
  | _ :: _, [], h => h.elim
theorem WkC.nil {c c' : List Value} (h : WkC c c') : c'.isEmpty = c.isEmpty := by
  cases c <;> cases c' <;> first | rfl | exact h.elim
theorem WkO.kind {a b : Option AObj} (h : WkO a b) : isC b = isC a ∧ sol b = sol a := by
  rcases h with rfl | ⟨c, c', t, q, rfl, rfl, hw⟩ | ⟨c, c', t, rfl, rfl, hw, hn⟩
  · exact ⟨rfl, rfl⟩
  · cases q with
    | false => exact ⟨rfl, rfl⟩
    | true => constructor <;> (show (!c'.isEmpty) = (!c.isEmpty); rw [hw.nil])
  · cases c' with
    | nil => exact absurd rfl hn
    | cons x c' => exact ⟨rfl, rfl⟩
theorem Emb.weaken {P : Program} {ι : Ren} {h h' : AH} {w : World} (e : Emb P ι h w) (hw : ∀ k, WkO (h k) (h' k)) : Emb P ι h' w where
  obj := fun k c t q hk => by
    rcases hw k with z | ⟨c1, c2, t1, q1, z1, z2, z3⟩ | ⟨c1, c2, t1, z1, z2, z3, z4⟩
    · exact e.obj k c t q (z.trans hk)
    · rw [z2] at hk
      injection hk with hk
      injection hk with hc ht hq
      subst hc ht hq
      obtain ⟨b, hb, ⟨y1, y2, y3⟩ | ⟨y1, C, r2, r3, r4⟩⟩ := e.obj k c1 t1 q1 z1
      · subst y2
        refine ⟨b, hb, .inl ⟨y1, ?_, y3⟩⟩
        cases c2 with
        | nil => rfl
        | cons x l => exact z3.elim
      · obtain ⟨l1, l2⟩ := z3.cells
        refine ⟨b, hb, .inr ⟨?_, C, r2, ⟨l1 ▸ r3.1, fun i x y hx hy => ?_⟩, r4⟩⟩
        · have := (WkO.kind (a := some (.cells c1 t1 q1)) (b := some (.cells c2 t1 q1)) (.inr (.inl ⟨_, _, _, _, rfl, rfl, z3⟩))).1
          rw [this]; exact y1
        · obtain ⟨x', w1, w2⟩ := l2 i x hx
          exact w2.vr (r3.2 i x' y w1 hy)
    · rw [z2] at hk
      injection hk with hk
      injection hk with hc ht hq
      subst hc ht hq
      obtain ⟨b, C, hb, r2, r3, r4⟩ := e.objF k c1 t1 z1
      obtain ⟨l1, l2⟩ := z3.cells
      refine ⟨b, hb, .inr ⟨?_, C, r2, ⟨l1 ▸ r3.1, fun i x y hx hy => ?_⟩, r4⟩⟩
      · cases c2 with
        | nil => exact absurd rfl z4
        | cons x l => rfl
      · obtain ⟨x', w1, w2⟩ := l2 i x hx
        exact w2.vr (r3.2 i x' y w1 hy)
  ro := fun {m} k O hk => by
    rcases hw k with q | ⟨c1, c2, t1, q1, z1, z2, z3⟩ | ⟨c1, c2, t1, z1, z2, z3, z4⟩
    · exact e.ro k O (q.trans hk)
    · rw [z2] at hk; injection hk with hk; cases hk
    · rw [z2] at hk; injection hk with hk; cases hk
  inj := fun k k' b b' h1 h2 h3 h4 h5 => e.inj k k' b b' ((hw k).kind.1 ▸ h1) ((hw k').kind.2 ▸ h2) h3 h4 h5
  lt := e.lt
  mks := fun b base id q hq => by
    obtain ⟨m1, m2, m3⟩ := e.mks b base id q hq
    exact ⟨m1, m2, fun k d hk hd => m3 k d ((hw k).kind.1 ▸ hk) hd⟩
  tb := e.tb
theorem Step.weaken {P : Program} {ι ι' : Ren} {h h1 h2 : AH} {w w' : World} (s : Step P ι h w ι' h1 w') (hw : ∀ k, WkO (h1 k) (h2 k)) : Step P ι h w ι' h2 w' where
  ext := s.ext
  emb := s.emb.weaken hw
  os := s.os
  tape := s.tape
  output := s.output
  size := s.size
  frame := s.frame
  new := s.new
  alive := fun k hk hi => s.alive k ((hw k).kind.2 ▸ hk) hi
  kind := fun k hk hi => s.kind k ((hw k).kind.1 ▸ hk) hi
theorem Step.ph {P : Program} {ι0 ι : Ren} {h0 h : AH} {w0 w : World} (S : Step P ι0 h0 w0 ι h w) {j i : Nat} (t : TypeId) (hjf : j < 1000000000) (hj : ι j = none) (hh : h j = none) (hi : isC (h i) = true) : ∃ b, Step P ι0 h0 w0 (upd ι j (some b)) (upd h j (some (.cells [] t true))) w := by
  obtain ⟨bi, hbi⟩ := S.emb.live (ZbW hi)
  have hx : ∀ k b, ι k = some b → upd ι j (some (bi.1, 0)) k = some b := fun k b hk => by
    rw [Zm]; · exact hk
    · intro e; subst e; rw [hj] at hk; cases hk
  have ne : ∀ k o, upd h j (some (AObj.cells [] t true)) k = some o → k ≠ j → h k = some o := fun k o hk hkj => by rwa [Zm hkj] at hk
  have neC : ∀ k, isC (upd h j (some (AObj.cells [] t true)) k) = true → k ≠ j ∧ isC (h k) = true := fun k hk => by
    by_cases hkj : k = j
    · subst hkj; rw [Zw] at hk; cases hk
    · exact ⟨hkj, by rwa [Zm hkj] at hk⟩
  have neS : ∀ k, sol (upd h j (some (AObj.cells [] t true)) k) = true → k ≠ j ∧ sol (h k) = true := fun k hk => by
    by_cases hkj : k = j
    · subst hkj; rw [Zw] at hk; cases hk
    · exact ⟨hkj, by rwa [Zm hkj] at hk⟩
  refine ⟨(bi.1, 0), fun k b hk => hx k b (S.ext k b hk), ⟨fun k c t' q hk => ?_, fun k O hk => ?_, fun k k' b b' h1 h2 h3 h4 h5 => ?_, fun k b hk => ?_, fun b base id q hq => ?_, fun x hx' => (S.emb.tb x hx').imp fun q hq => hx _ _ hq⟩, S.os, S.tape, S.output, S.size, S.frame, fun k b h1 h2 => ?_, fun k h1 h2 => S.alive k (neS k h1).2 h2, fun k h1 h2 => S.kind k (neC k h1).2 h2⟩
  · by_cases hkj : k = j
    · subst hkj
      rw [Zw] at hk
      injection hk with hk
      injection hk with q1 q2 q3
      subst q1 q2 q3
      exact ⟨_, Zw, .inl ⟨rfl, rfl, rfl⟩⟩
    · obtain ⟨b, hb, hz⟩ := S.emb.obj k c t' q (ne k _ hk hkj)
      exact ⟨b, hx k b hb, hz.imp id fun ⟨z1, C, z2, z3, z4⟩ => ⟨z1, C, z2, z3.ext hx, z4⟩⟩
  · by_cases hkj : k = j
    · subst hkj; rw [Zw] at hk; injection hk with hk; cases hk
    · obtain ⟨b, hb, hB⟩ := S.emb.ro k O (ne k _ hk hkj)
      exact ⟨b, hx k b hb, hB⟩
  · obtain ⟨g1, g2⟩ := neC k h1
    obtain ⟨g3, g4⟩ := neS k' h2
    rw [Zm g1] at h3
    rw [Zm g3] at h4
    exact S.emb.inj k k' b b' g2 g4 h3 h4 h5
  · by_cases hkj : k = j
    · subst hkj; rw [Zw] at hk; injection hk with hk; subst hk; exact S.emb.lt i bi hbi
    · rw [Zm hkj] at hk; exact S.emb.lt k b hk
  · obtain ⟨m1, m2, m3⟩ := S.emb.mks b base id q (Zjy hjf _ _ _ _ hq)
    refine ⟨m1, ⟨m2.1.ext hx rfl, fun o c hc => hx _ _ (m2.2 o c hc)⟩, fun k d hk hd => ?_⟩
    obtain ⟨g1, g2⟩ := neC k hk
    rw [Zm g1] at hd
    exact m3 k d g2 hd
  · by_cases hkj : k = j
    · subst hkj
      rw [Zw] at h2
      injection h2 with h2
      subst h2
      cases hi0 : ι0 i with
      | none => exact S.new i bi hi0 hbi
      | some c =>
        have := S.ext i c hi0
        rw [hbi] at this
        injection this with this
        subst this
        exact .inr ⟨i, _, S.kind i hi (by rw [hi0]; simp), hi0, rfl⟩
    · rw [Zm hkj] at h2
      exact S.new k b h1 h2
def Zl7 : List (Nat × TypeId) → List (Option AObj) → List (Option AObj)
  | [], H => H
  | x :: js, H => Zl7 js (H.set x.1 (some (.cells [] x.2 true)))
def Zu9 (live : List Nat) (H : List (Option AObj)) (js : List (Nat × TypeId)) : Bool :=
  Z4 (fun x => (match live[x.1]? with | some k => Nat.ble 500000000 k | none => false) && (match H[x.1]? with | some none => true | _ => false)) js && decide (js.map (·.1)).Nodup
theorem Zq9 : ∀ (js : List (Nat × TypeId)) (H : List (Option AObj)), (Zl7 js H).length = H.length
  | [], _ => rfl
  | x :: js, H => by show (Zl7 js _).length = _; rw [Zq9 js]; simp
theorem ZtA {H : List (Option AObj)} {j : Nat} {o : Option AObj} (hj : j < H.length) : lkO (H.set j o) = upd (lkO H) j o := funext fun k => by
  unfold lkO
  by_cases hk : k = j
  · subst hk; rw [Zw]; simp [hj]
  · rw [Zm hk, List.getElem?_set_ne (fun e => hk e.symm)]
theorem Zsj {P : Program} {ι0 : Ren} {h0 : AH} {w0 w : World} {i : Nat} : ∀ (js : List (Nat × TypeId)) (H : List (Option AObj)) (ι : Ren), H.length ≤ far → (∀ x ∈ js, H[x.1]? = some none ∧ ι x.1 = none) → (js.map (·.1)).Nodup → (js = [] ∨ isC (lkO H i) = true) → Step P ι0 h0 w0 ι (lkO H) w →
    ∃ ι', (∀ k b, ι k = some b → ι' k = some b) ∧ Step P ι0 h0 w0 ι' (lkO (Zl7 js H)) w ∧ ∀ k, H.length ≤ k → ι k = none → ι' k = none
  | [], H, ι, _, _, _, _, S => ⟨ι, fun _ _ h => h, S, fun _ _ h => h⟩
  | x :: js, H, ι, hl, hx, hn, hi, S => by
    obtain ⟨h1, h2⟩ := hx x (List.mem_cons_self ..)
    have hlt : x.1 < H.length := (List.getElem?_eq_some_iff.1 h1).1
    have hC : isC (lkO H i) = true := by rcases hi with h | h; cases h; exact h
    have hn1 : lkO H x.1 = none := by unfold lkO; rw [h1]; rfl
    obtain ⟨b, S1⟩ := S.ph x.2 (Nat.lt_of_lt_of_le hlt hl) h2 hn1 hC
    rw [← ZtA hlt] at S1
    have hnd := List.nodup_cons.1 hn
    have hix : i ≠ x.1 := fun e => by subst e; rw [hn1] at hC; cases hC
    obtain ⟨ι', q1, q2, q3⟩ := Zsj (i := i) js (H.set x.1 (some (.cells [] x.2 true))) _ (by simpa using hl) (fun y hy => by
      have hne : y.1 ≠ x.1 := fun e => hnd.1 (List.mem_map.2 ⟨y, hy, e⟩)
      obtain ⟨g1, g2⟩ := hx y (List.mem_cons_of_mem _ hy)
      exact ⟨by rw [List.getElem?_set_ne (fun e => hne e.symm)]; exact g1, by rw [Zm hne]; exact g2⟩) hnd.2 (.inr (by rw [ZtA hlt, Zm hix]; exact hC)) S1
    refine ⟨ι', fun k c hk => q1 k c (by rw [Zm (fun e => by subst e; rw [h2] at hk; cases hk)]; exact hk), q2, fun k hk hk2 => q3 k (by simpa using hk) (by rw [Zm (by omega)]; exact hk2)⟩
def Zm2 : List Nat → Code → List ZaS → Code × List ZaS
  | [], c, K => (c, K)
  | 0 :: p, .seq a b, K => Zm2 p a (.seq b :: K)
  | 1 :: p, .seq _ b, K => Zm2 p b K
  | 2 :: p, .scope a, K => Zm2 p a (.scp :: K)
  | 3 :: p, .block i a, K => Zm2 p a (.blk i :: K)
  | 4 :: p, .cond _ a _, K => Zm2 p a K
  | 5 :: p, .cond _ _ b, K => Zm2 p b K
  | (n + 6) :: p, .loop a, K => Zm2 p a (.rnd n :: K)
  | _, _, K => (.skip, K)
structure Mach where
  fn : Func
  pre : List AObj
  X : Type
  R : Type
  step : X → Option (X ⊕ R)
  hd : X → Nat
  code : Nat → Code × List ZaS
  isL : Nat → Bool
  L : X → List (Nat × Value)
  H : X → List (Option AObj)
  V : R → Value
  Po : R → List (Option AObj)
namespace Mach
def after (M : Mach) (n : Nat) : M.X ⊕ M.R → Option M.R
  | .inl y => ZcV M.step n y
  | .inr r => some r
def KK (M : Mach) (i : Nat) : List ZaS := match M.isL i with | true => .rnd i :: (M.code i).2 | false => (M.code i).2
def IntoM (M : Mach) (y : M.X) (T : Tr Value) (s : St) : Prop :=
  ∃ live H0 js, WkL (Zl7 js H0) (M.H y) ∧ Zu9 live H0 js = true ∧ (js = [] ∨ ∃ i, isC (lkO H0 i) = true) ∧ ZdM M.pre.length live = true ∧ Into M.fn.ntmps H0.length (fun t => Za2 t (M.L y)) (Zhl 0 H0) T s live
def To (M : Mach) (K0 : List ZaS) : StopC → M.X ⊕ M.R → Prop
  | .fin u s, .inr r => ∃ live, ZoA M.pre.length (M.V r) (M.Po r) u s live
  | .next j T s, .inl y => j = M.hd y ∧ M.isL j = true ∧ j ∈ ZJ K0 ∧ M.IntoM y T s
  | .head b K T s, .inl y => M.isL (M.hd y) = true ∧ (b, K) = M.code (M.hd y) ∧ (∀ j ∈ ZJ K, j ∈ ZJ K0) ∧ M.IntoM y T s
  | .cut b K T s, .inl y => M.isL (M.hd y) = false ∧ (b, K) = M.code (M.hd y) ∧ (∀ j ∈ ZJ K, j ∈ ZJ K0) ∧ M.IntoM y T s
  | .thr u _, .inr r => M.V r = u ∧ Zcs u = true ∧ M.Po r = M.pre.map fun _ => none
  | _, _ => False
noncomputable def Start (M : Mach) (x : M.X) (gv : Nat → Value) (P : Program) (ext : FuncId → Option Ext) (cd cm fu : Nat) (orc : Orc) : Option StopC :=
  Zee P ext M.fn M.fn.ntmps cd fu cm (M.code (M.hd x)).1 (M.KK (M.hd x)) (tmps M.fn.ntmps (fun t => Za2 t (M.L x)) gv) ⟨Zhl 0 (M.H x), (M.H x).length, [], orc, []⟩
noncomputable def Ok (M : Mach) (P : Program) (ext : FuncId → Option Ext) (x : M.X) (o : Option (M.X ⊕ M.R)) : Prop :=
  ∀ y, o = some y → ∀ gv, ∃ cd cm fu orc st, M.Start x gv P ext cd cm fu orc = some st ∧ (∀ p ∈ st.s.ob, p.1 = p.2) ∧ st.s.n ≤ 500000000 ∧ M.To (M.KK (M.hd x)) st y
def AtM (M : Mach) (P : Program) (ι0 : Ren) (w0 : World) (y : M.X) (gv : Nat → Value) (a : Act) (w : World) : Prop :=
  At P M.fn.ntmps (tmps M.fn.ntmps (fun t => Za2 t (M.L y)) gv) (Zhl 0 (M.H y)).get (M.H y).length far ι0 (lk M.pre) w0 a w
section
variable {P : Program} {ext : FuncId → Option Ext}
def Good (M : Mach) (P : Program) (r : M.R) (ι0 : Ren) (w0 : World) (n : Nat) (x : M.X) (Nx : Nat → Act → World → Prop) (a : Act) (w : World) : Prop :=
  match M.isL (M.hd x) with
  | true => Code.rounds P (M.code (M.hd x)).1 (post P M.fn (Fin P ι0 M.pre w0 (M.V r) (M.Po r)) Nx (M.code (M.hd x)).2) n a w
  | false => (M.code (M.hd x)).1.wp P (post P M.fn (Fin P ι0 M.pre w0 (M.V r) (M.Po r)) Nx (M.code (M.hd x)).2) a w
def Outer (M : Mach) (P : Program) (r : M.R) (ι0 : Ren) (w0 : World) (n : Nat) (js : List Nat) (Nx : Nat → Act → World → Prop) : Prop :=
  ∀ m z, m < n → ZcV M.step m z = some r → M.isL (M.hd z) = true → M.hd z ∈ js → ∀ gv a w, M.AtM P ι0 w0 z gv a w → Nx (M.hd z) a w
theorem keeps_range {n : Nat} (h : n ≤ far) : ZdM n (List.range n) = true := by
  unfold ZdM
  rw [Bool.and_eq_true]
  constructor
  · rw [List.take_of_length_le (by simp)]; exact beq_self_eq_true _
  · have : ∀ l : List Nat, (∀ k ∈ l, k < 1000000000) → Z4 (fun k => Nat.blt k 1000000000) l = true := by
      intro l
      induction l with
      | nil => intro _; rfl
      | cons x l ih =>
        intro hl
        show (Nat.blt x 1000000000 && Z4 _ l) = true
        rw [ih fun k hk => hl k (List.mem_cons_of_mem _ hk), Bool.and_true, Nat.blt_eq]
        exact hl x (List.mem_cons_self ..)
    exact this _ fun k hk => Nat.lt_of_lt_of_le (List.mem_range.1 hk) h
theorem into_atM (M : Mach) (hH : ∀ x, (M.H x).length ≤ far) {y : M.X} {T : Tr Value} {s : St} (h : M.IntoM y T s) {ι0 ι : Ren} {w0 w : World} {a : Act} (hd : ∀ k, ι0 k ≠ none → k < M.pre.length ∨ Zf9 k) (hT : TR ι M.fn.ntmps [] T a) (hS : Step P ι0 (lk M.pre) w0 ι s.h.get w) (hF : ∀ k, 500000000 ≤ k → k < far → ι k = none) : ∃ gv, M.AtM P ι0 w0 y gv a w := by
  obtain ⟨live, H0, js, hwk, hph, hi, hk, h1, h2, h3, h4⟩ := h
  have hlen : H0.length = (M.H y).length := by rw [← hwk.len, Zq9]
  obtain ⟨gv, ι', a1, a2, a3, _, a5⟩ := ZrM hT hS live H0.length far rfl (ZnP hk) h1 (hlen ▸ hH y) h2 (fun k hk2 => (hd k hk2).imp (Zo8 hk) id) (fun t => Za2 t (M.L y)) h3 (Zhl 0 H0).get h4
  rw [ZnY] at a2
  unfold Zu9 at hph
  rw [Bool.and_eq_true] at hph
  obtain ⟨i, hi'⟩ : ∃ i, js = [] ∨ isC (lkO H0 i) = true := by
    rcases hi with h | ⟨i, h⟩
    · exact ⟨0, .inl h⟩
    · exact ⟨i, .inr h⟩
  obtain ⟨ι2, b1, b2, b3⟩ := Zsj (i := i) js H0 ι' (hlen ▸ hH y) (fun x hx => by
    have hq := Zat hph.1 x hx
    rw [Bool.and_eq_true] at hq
    obtain ⟨g1, g2⟩ := hq
    constructor
    · split at g2
      · assumption
      · cases g2
    · split at g1
      · rename_i k hlk
        rw [a5 x.1 k hlk]
        exact hF k (Nat.le_of_ble_eq_true g1) (ZnP hk k (List.mem_of_getElem? hlk))
      · cases g1) (of_decide_eq_true hph.2) hi' a2
  refine ⟨gv, ι2, a1.on b1, ?_, fun k hk1 hk2 => b3 k (hlen ▸ hk1) (a3 k (hlen ▸ hk1) hk2)⟩
  rw [ZnY]
  exact b2.weaken hwk.at_
theorem run1 (M : Mach) (hH : ∀ x, (M.H x).length ≤ far) (hPo : ∀ r, (M.Po r).length ≤ far) (r : M.R) {ι0 : Ren} {w0 : World} (hd0 : ∀ k, ι0 k ≠ none → k < M.pre.length ∨ Zf9 k) (n : Nat)
    (ih : ∀ m, m ≤ n → ∀ x, ZcV M.step m x = some r → ∀ Nx, M.Outer P r ι0 w0 m (ZJ (M.code (M.hd x)).2) Nx → ∀ gv a w, M.AtM P ι0 w0 x gv a w → M.Good P r ι0 w0 m x Nx a w)
    {K0 : List ZaS} {Nx : Nat → Act → World → Prop} (hNx : M.Outer P r ι0 w0 (n + 1) (ZJ K0) Nx) {st : StopC} {y : M.X ⊕ M.R} (hto : M.To K0 st y) (hy : M.after n y = some r)
    {ι : Ren} {a : Act} {w : World} (hS : Step P ι0 (lk M.pre) w0 ι st.s.h.get w) (hF : ∀ k, 500000000 ≤ k → k < far → ι k = none) : Zmz P M.fn (Fin P ι0 M.pre w0 (M.V r) (M.Po r)) Nx M.fn.ntmps ι a w st := by
  have sub : ∀ {K : List ZaS}, (∀ j ∈ ZJ K, j ∈ ZJ K0) → M.Outer P r ι0 w0 n (ZJ K) Nx := fun {K} hs m z hm hz hl hj gv a w hat => hNx m z (by omega) hz hl (hs _ hj) gv a w hat
  cases st with
  | fin u s =>
    cases y with
    | inl y => exact hto.elim
    | inr r' =>
      obtain ⟨live, hto⟩ := hto
      obtain rfl : r' = r := Option.some.inj hy
      exact fun v' hv => Zmp (hPo r') hd0 hto hS hv
  | next j T s =>
    cases y with
    | inr r' => exact hto.elim
    | inl y =>
      obtain ⟨rfl, hl, hj, hin⟩ := hto
      intro hT
      obtain ⟨gv, hat⟩ := M.into_atM hH hin hd0 hT hS hF
      exact hNx n y (by omega) hy hl hj gv a w hat
  | head b K T s =>
    cases y with
    | inr r' => exact hto.elim
    | inl y =>
      obtain ⟨hl, hc, hsub, hin⟩ := hto
      intro hT
      obtain ⟨gv, hat⟩ := M.into_atM hH hin hd0 hT hS hF
      have e1 : b = (M.code (M.hd y)).1 := congrArg Prod.fst hc
      have e2 : K = (M.code (M.hd y)).2 := congrArg Prod.snd hc
      subst e1 e2
      have := ih n (Nat.le_refl _) y hy Nx (sub hsub) gv a w hat
      unfold Good at this
      rw [hl] at this
      exact wp_loop_rounds n this
  | thr u s =>
    cases y with
    | inl y => exact hto.elim
    | inr r' =>
      obtain ⟨hv, ht, hpo⟩ := hto
      obtain rfl : r' = r := Option.some.inj hy
      intro _
      have hl : (M.Po r').length = M.pre.length := by rw [hpo, List.length_map]
      have hfar : M.pre.length ≤ far := hl ▸ hPo r'
      have hf := Zmp (v := .bool true) (u := .bool true) (v' := .bool true) (post := M.Po r') (s := s) (live := List.range M.pre.length) (hPo r') hd0 ⟨by rw [hl, List.length_range], List.nodup_range, keeps_range hfar, ⟨rfl, rfl⟩, fun j o hj => by
        rw [hpo] at hj
        exfalso
        unfold lkO at hj
        rw [List.getElem?_map] at hj
        cases hx : M.pre[j]? <;> rw [hx] at hj <;> cases hj⟩ hS (.atom rfl)
      rcases hf with ⟨v', ι', _, g2, g3, _⟩ | ⟨hz, _⟩
      · rw [← hv] at ht ⊢
        exact .inr ⟨ht, ι', rfl, g2, g3⟩
      · cases hz
  | cut b K T s =>
    cases y with
    | inr r' => exact hto.elim
    | inl y =>
      obtain ⟨hl, hc, hsub, hin⟩ := hto
      intro hT
      obtain ⟨gv, hat⟩ := M.into_atM hH hin hd0 hT hS hF
      have e1 : b = (M.code (M.hd y)).1 := congrArg Prod.fst hc
      have e2 : K = (M.code (M.hd y)).2 := congrArg Prod.snd hc
      subst e1 e2
      have := ih n (Nat.le_refl _) y hy Nx (sub hsub) gv a w hat
      unfold Good at this
      rw [hl] at this
      exact this
theorem rounds (F : Fit P ext) (M : Mach) (hH : ∀ x, (M.H x).length ≤ far) (hPo : ∀ r, (M.Po r).length ≤ far) (hK : ∀ x, M.isL (M.hd x) = true → M.hd x ∉ ZJ (M.code (M.hd x)).2) (ok : ∀ x, M.Ok P ext x (M.step x)) (r : M.R) {ι0 : Ren} {w0 : World} (hd0 : ∀ k, ι0 k ≠ none → k < M.pre.length ∨ Zf9 k) :
    ∀ (n : Nat) (x : M.X), ZcV M.step n x = some r → ∀ Nx, M.Outer P r ι0 w0 n (ZJ (M.code (M.hd x)).2) Nx → ∀ gv a w, M.AtM P ι0 w0 x gv a w → M.Good P r ι0 w0 n x Nx a w := by
  intro n
  induction n using Nat.strongRecOn with
  | ind n ih =>
    intro x hx Nx hNx gv a w hat
    cases n with
    | zero => cases hx
    | succ n =>
      have hat0 := hat
      obtain ⟨ι, hT, hS, hfr⟩ := hat
      cases hy : M.step x with
      | none => simp only [ZcV, hy] at hx; cases hx
      | some y =>
        obtain ⟨cd, cm, fu, orc, st, hev, ho, hn, hto⟩ := ok x y hy gv
        have hyr : M.after n y = some r := by
          cases y <;> (simp only [ZcV, hy] at hx; exact hx)
        have hn' : st.s.n ≤ far := Nat.le_trans hn (by decide)
        have fresh : Fresh ι (M.H x).length st.s.n := ⟨hn', fun k h1 h2 => hfr k h1 (Nat.lt_of_lt_of_le h2 hn')⟩
        have ih' : ∀ m, m ≤ n → ∀ x, ZcV M.step m x = some r → ∀ Nx, M.Outer P r ι0 w0 m (ZJ (M.code (M.hd x)).2) Nx → ∀ gv a w, M.AtM P ι0 w0 x gv a w → M.Good P r ι0 w0 m x Nx a w := fun m hm => ih m (by omega)
        have go : ∀ Nx', M.Outer P r ι0 w0 (n + 1) (ZJ (M.KK (M.hd x))) Nx' → (M.code (M.hd x)).1.wp P (post P M.fn (Fin P ι0 M.pre w0 (M.V r) (M.Po r)) Nx' (M.KK (M.hd x))) a w := fun Nx' hNx' =>
          (Zq7 F (R := Fin P ι0 M.pre w0 (M.V r) (M.Po r)) (Nx := Nx') fu).1 cm _ _ _ _ st hev ho ι a w hT hS.emb fresh fun ι' a' w' g1 g2 => run1 M hH hPo r hd0 n ih' hNx' hto hyr (hS.trans g1) (fun k h1 h2 => by
            cases hik : ι' k with
            | none => rfl
            | some c =>
              rcases g2 k (by rw [hik]; simp) with h | ⟨_, h⟩ | h
              · exact absurd (hfr k (by have : (M.H x).length ≤ st.s.n := ((Zsg F (fn := M.fn) (nt := M.fn.ntmps) (cd := cd) fu).1 _ _ _ _ _ _ hev).n; omega) h2) h
              · omega
              · omega)
        unfold Good
        cases hl : M.isL (M.hd x) with
        | false =>
          have e : M.KK (M.hd x) = (M.code (M.hd x)).2 := by unfold KK; rw [hl]
          rw [e] at go
          exact go Nx hNx
        | true =>
          have e : M.KK (M.hd x) = .rnd (M.hd x) :: (M.code (M.hd x)).2 := by unfold KK; rw [hl]
          rw [e] at go
          show Code.rounds P _ _ (n + 1) a w
          rw [rounds_succ]
          let Nx' : Nat → Act → World → Prop := fun j => if j = M.hd x then Code.rounds P (M.code (M.hd x)).1 (post P M.fn (Fin P ι0 M.pre w0 (M.V r) (M.Po r)) Nx (M.code (M.hd x)).2) n else Nx j
          have n1 : Nx' (M.hd x) = Code.rounds P (M.code (M.hd x)).1 (post P M.fn (Fin P ι0 M.pre w0 (M.V r) (M.Po r)) Nx (M.code (M.hd x)).2) n := if_pos rfl
          have n2 : ∀ j, j ≠ M.hd x → Nx' j = Nx j := fun j hj => if_neg hj
          have hp : post P M.fn (Fin P ι0 M.pre w0 (M.V r) (M.Po r)) Nx' (M.code (M.hd x)).2 = post P M.fn (Fin P ι0 M.pre w0 (M.V r) (M.Po r)) Nx (M.code (M.hd x)).2 := Zg0 fun j hj => n2 j fun e => by subst e; exact hK x hl hj
          have := go Nx' fun m z hm hz hlz hj gv a w hat => by
            by_cases hzx : M.hd z = M.hd x
            · rw [hzx, n1]
              have := ih m (by omega) z hz Nx (fun m' z' h1 h2 h3 h4 => hNx m' z' (by omega) h2 h3 (by rw [hzx] at h4; exact h4)) gv a w hat
              unfold Good at this
              rw [hlz] at this
              rw [hzx] at this
              exact Zq8 m n (by omega) a w this
            · rw [n2 _ hzx]
              rcases List.mem_cons.1 hj with h | h
              · exact absurd h hzx
              · exact hNx m z (by omega) hz hlz h gv a w hat
          simp only [post, hp, n1] at this
          exact this
noncomputable def Enter (M : Mach) (P : Program) (ext : FuncId → Option Ext) (A : Array Value) (o : Option (M.X ⊕ M.R)) : Prop :=
  ∀ y, o = some y → ∃ cd cm fu orc st, Zee P ext M.fn M.fn.ntmps cd fu cm (ZeZ M.fn) [] (ZcO 0 A.toList .nil) ⟨Zeb 0 M.pre, M.pre.length, [], orc, []⟩ = some st ∧ (∀ p ∈ st.s.ob, p.1 = p.2) ∧ st.s.n ≤ 500000000 ∧ M.To [] st y
theorem spec (F : Fit P ext) (M : Mach) {f : FuncId} (hfn : P.funcs[f]? = some M.fn) (hb : M.fn.body = some (ZeZ M.fn)) {A : Array Value} (hA : Nat.ble A.size M.fn.ntmps = true) (hH : ∀ x, (M.H x).length ≤ far) (hPo : ∀ r, (M.Po r).length ≤ far) (hK : ∀ x, M.isL (M.hd x) = true → M.hd x ∉ ZJ (M.code (M.hd x)).2)
    (ok : ∀ x, M.Ok P ext x (M.step x)) {o : Option (M.X ⊕ M.R)} (en : M.Enter P ext A o) {n : Nat} {r : M.R} (h : goM M.step n o = some r) : LSpec P f A M.pre (M.V r) (M.Po r) := by
  cases o with
  | none => cases h
  | some y =>
    obtain ⟨cd, cm, fu, orc, st, hev, ho, hn, hto⟩ := en y rfl
    refine Zv1 F hfn hb hA hev ho (Nat.le_trans hn (by decide)) fun ι0 w0 hd ι' a' w' hS hD => ?_
    exact run1 M hH hPo r hd n (fun m _ => rounds F M hH hPo hK ok r hd m) (K0 := []) (fun m z _ _ _ hj => by cases hj) hto (by cases y <;> exact h) hS (fun k h1 h2 => by
      cases hik : ι' k with
      | none => rfl
      | some c =>
        rcases hD k (by rw [hik]; simp) with h | ⟨_, h⟩ | h
        · rcases hd k h with h | h
          · have : M.pre.length ≤ st.s.n := ((Zsg F (fn := M.fn) (nt := M.fn.ntmps) (cd := cd) fu).1 _ _ _ _ _ _ hev).n; omega
          · unfold Zf9 at h; unfold far at h2; omega
        · omega
        · omega)
end
/-! ### How leaves are written -/
section
variable {P : Program} {ext : FuncId → Option Ext} {M : Mach} {x : M.X} {cd cm fu : Nat} {orc : Orc} {live : List Nat} {bl : List (Option AObj)} {ob : List (Bool × Bool)}
theorem ok_none : M.Ok P ext x none := fun _ h => by cases h
theorem ok_ite {c : Prop} [Decidable c] {A B : Option (M.X ⊕ M.R)} (h1 : c → M.Ok P ext x A) (h2 : ¬ c → M.Ok P ext x B) : M.Ok P ext x (if c then A else B) := by
  by_cases h : c
  · rw [if_pos h]; exact h1 h
  · rw [if_neg h]; exact h2 h
theorem ok_bind {α : Type} {o : Option α} {k : α → Option (M.X ⊕ M.R)} (h : ∀ r, o = some r → M.Ok P ext x (k r)) : M.Ok P ext x (o.bind k) := by
  cases o with
  | none => exact ok_none
  | some r => exact h r rfl
theorem ok_fin {r : M.R} {u : Value} (hev : ∀ gv, ZmY live (M.Start x gv P ext cd cm fu orc) = some (u, bl, ob)) (ho : ∀ p ∈ ob, p.1 = p.2) (hl : live.length = (M.Po r).length) (hn : live.Nodup) (hk : ZdM M.pre.length live = true) (hv : M.V r = Za5 (rho live far) 3 u ∧ Zau 3 u = true) (hbl : ZbY (rho live far) bl (M.Po r)) : M.Ok P ext x (some (.inr r)) := by
  intro y hy gv
  obtain rfl := Option.some.inj hy
  obtain ⟨s, h1, rfl, rfl, h4⟩ := Zm0 (hev gv)
  exact ⟨cd, cm, fu, orc, _, h1, ho, h4, live, hl, hn, hk, hv, ZfB hbl⟩
theorem ok_next {y : M.X} {tv : (Nat → Value) → List (Option Value)} (hL : M.isL (M.hd y) = true) (hr : M.hd y ∈ ZJ (M.KK (M.hd x))) (hev : ∀ gv, Zl6 (M.hd y) live ((M.L y).map (·.1)) (M.Start x gv P ext cd cm fu orc) = some (tv gv, bl, ob)) (ho : ∀ p ∈ ob, p.1 = p.2) (hl : live.length = (M.H y).length) (hn : live.Nodup) (hk : ZdM M.pre.length live = true) (ht : ∀ gv, Zgf (rho live far) (tv gv) (M.L y)) (hbl : ZbY (rho live far) bl (M.H y)) : M.Ok P ext x (some (.inl y)) := by
  intro y' hy gv
  obtain rfl := Option.some.inj hy
  obtain ⟨T, s, h1, h2, rfl, rfl, h4⟩ := ZlH (hev gv)
  exact ⟨cd, cm, fu, orc, _, h1, ho, h4, rfl, hL, hr, live, M.H y, [], WkL.refl _, rfl, .inl rfl, hk, ZhO hl hn (h2 ▸ ht gv) hbl⟩
theorem ok_head {y : M.X} {tv : (Nat → Value) → List (Option Value)} {bK : Code × List ZaS} (hL : M.isL (M.hd y) = true) (hr : bK = M.code (M.hd y)) (hsub : ∀ j ∈ ZJ (M.code (M.hd y)).2, j ∈ ZJ (M.KK (M.hd x))) (hev : ∀ gv, Zj4 live ((M.L y).map (·.1)) (M.Start x gv P ext cd cm fu orc) = some (bK, tv gv, bl, ob)) (ho : ∀ p ∈ ob, p.1 = p.2) (hl : live.length = (M.H y).length) (hn : live.Nodup) (hk : ZdM M.pre.length live = true) (ht : ∀ gv, Zgf (rho live far) (tv gv) (M.L y)) (hbl : ZbY (rho live far) bl (M.H y)) : M.Ok P ext x (some (.inl y)) := by
  intro y' hy gv
  obtain rfl := Option.some.inj hy
  obtain ⟨T, s, h1, h2, rfl, rfl, h4⟩ := ZiB (hev gv)
  exact ⟨cd, cm, fu, orc, _, h1, ho, h4, hL, hr, by rw [hr]; exact hsub, live, M.H y, [], WkL.refl _, rfl, .inl rfl, hk, ZhO hl hn (h2 ▸ ht gv) hbl⟩
theorem ok_cut {y : M.X} {tv : (Nat → Value) → List (Option Value)} {bK : Code × List ZaS} (hL : M.isL (M.hd y) = false) (hr : bK = M.code (M.hd y)) (hsub : ∀ j ∈ ZJ (M.code (M.hd y)).2, j ∈ ZJ (M.KK (M.hd x))) (hev : ∀ gv, Zsi live ((M.L y).map (·.1)) (M.Start x gv P ext cd cm fu orc) = some (bK, tv gv, bl, ob)) (ho : ∀ p ∈ ob, p.1 = p.2) (hl : live.length = (M.H y).length) (hn : live.Nodup) (hk : ZdM M.pre.length live = true) (ht : ∀ gv, Zgf (rho live far) (tv gv) (M.L y)) (hbl : ZbY (rho live far) bl (M.H y)) : M.Ok P ext x (some (.inl y)) := by
  intro y' hy gv
  obtain rfl := Option.some.inj hy
  obtain ⟨T, s, h1, h2, rfl, rfl, h4⟩ := Zth (hev gv)
  exact ⟨cd, cm, fu, orc, _, h1, ho, h4, hL, hr, by rw [hr]; exact hsub, live, M.H y, [], WkL.refl _, rfl, .inl rfl, hk, ZhO hl hn (h2 ▸ ht gv) hbl⟩
theorem ok_thr {r : M.R} {u : Value} (hev : ∀ gv, Zsh (M.Start x gv P ext cd cm fu orc) = some (u, ob)) (ho : ∀ p ∈ ob, p.1 = p.2) (hv : M.V r = u) (ht : Zcs u = true) (hp : M.Po r = M.pre.map fun _ => none) : M.Ok P ext x (some (.inr r)) := by
  intro y hy gv
  obtain rfl := Option.some.inj hy
  obtain ⟨s, h1, rfl, h4⟩ := Ztg (hev gv)
  exact ⟨cd, cm, fu, orc, _, h1, ho, h4, hv, ht, hp⟩
theorem ok_nextW {y : M.X} (H0 : List (Option AObj)) (js : List (Nat × TypeId)) (i : Nat) (hw : WkL (Zl7 js H0) (M.H y)) (hp : Zu9 live H0 js = true) (hi : isC (lkO H0 i) = true) {tv : (Nat → Value) → List (Option Value)} (hL : M.isL (M.hd y) = true) (hr : M.hd y ∈ ZJ (M.KK (M.hd x))) (hev : ∀ gv, Zl6 (M.hd y) live ((M.L y).map (·.1)) (M.Start x gv P ext cd cm fu orc) = some (tv gv, bl, ob)) (ho : ∀ p ∈ ob, p.1 = p.2) (hl : live.length = H0.length) (hn : live.Nodup) (hk : ZdM M.pre.length live = true) (ht : ∀ gv, Zgf (rho live far) (tv gv) (M.L y)) (hbl : ZbY (rho live far) bl H0) : M.Ok P ext x (some (.inl y)) := by
  intro y' hy gv
  obtain rfl := Option.some.inj hy
  obtain ⟨T, s, h1, h2, rfl, rfl, h4⟩ := ZlH (hev gv)
  exact ⟨cd, cm, fu, orc, _, h1, ho, h4, rfl, hL, hr, live, H0, js, hw, hp, .inr ⟨i, hi⟩, hk, ZhO hl hn (h2 ▸ ht gv) hbl⟩
variable {A : Array Value}
noncomputable def startE (M : Mach) (P : Program) (ext : FuncId → Option Ext) (A : Array Value) (cd cm fu : Nat) (orc : Orc) : Option StopC :=
  Zee P ext M.fn M.fn.ntmps cd fu cm (ZeZ M.fn) [] (ZcO 0 A.toList .nil) ⟨Zeb 0 M.pre, M.pre.length, [], orc, []⟩
theorem en_none : M.Enter P ext A none := fun _ h => by cases h
theorem en_ite {c : Prop} [Decidable c] {B C : Option (M.X ⊕ M.R)} (h1 : c → M.Enter P ext A B) (h2 : ¬ c → M.Enter P ext A C) : M.Enter P ext A (if c then B else C) := by
  by_cases h : c
  · rw [if_pos h]; exact h1 h
  · rw [if_neg h]; exact h2 h
theorem en_bind {α : Type} {o : Option α} {k : α → Option (M.X ⊕ M.R)} (h : ∀ r, o = some r → M.Enter P ext A (k r)) : M.Enter P ext A (o.bind k) := by
  cases o with
  | none => exact en_none
  | some r => exact h r rfl
theorem en_fin {r : M.R} {u : Value} (hev : ZmY live (M.startE P ext A cd cm fu orc) = some (u, bl, ob)) (ho : ∀ p ∈ ob, p.1 = p.2) (hl : live.length = (M.Po r).length) (hn : live.Nodup) (hk : ZdM M.pre.length live = true) (hv : M.V r = Za5 (rho live far) 3 u ∧ Zau 3 u = true) (hbl : ZbY (rho live far) bl (M.Po r)) : M.Enter P ext A (some (.inr r)) := by
  intro y hy
  obtain rfl := Option.some.inj hy
  obtain ⟨s, h1, rfl, rfl, h4⟩ := Zm0 hev
  exact ⟨cd, cm, fu, orc, _, h1, ho, h4, live, hl, hn, hk, hv, ZfB hbl⟩
theorem en_head {y : M.X} {tv : List (Option Value)} {bK : Code × List ZaS} (hL : M.isL (M.hd y) = true) (hr : bK = M.code (M.hd y)) (hsub : ZJ (M.code (M.hd y)).2 = []) (hev : Zj4 live ((M.L y).map (·.1)) (M.startE P ext A cd cm fu orc) = some (bK, tv, bl, ob)) (ho : ∀ p ∈ ob, p.1 = p.2) (hl : live.length = (M.H y).length) (hn : live.Nodup) (hk : ZdM M.pre.length live = true) (ht : Zgf (rho live far) tv (M.L y)) (hbl : ZbY (rho live far) bl (M.H y)) : M.Enter P ext A (some (.inl y)) := by
  intro y' hy
  obtain rfl := Option.some.inj hy
  obtain ⟨T, s, h1, rfl, rfl, rfl, h4⟩ := ZiB hev
  exact ⟨cd, cm, fu, orc, _, h1, ho, h4, hL, hr, (fun j hj => by rw [show bK.2 = (M.code (M.hd y)).2 from congrArg Prod.snd hr, hsub] at hj; cases hj), live, M.H y, [], WkL.refl _, rfl, .inl rfl, hk, ZhO hl hn ht hbl⟩
theorem en_headW {y : M.X} (H0 : List (Option AObj)) (js : List (Nat × TypeId)) (i : Nat) (hw : WkL (Zl7 js H0) (M.H y)) (hp : Zu9 live H0 js = true) (hi : isC (lkO H0 i) = true) {tv : List (Option Value)} {bK : Code × List ZaS} (hL : M.isL (M.hd y) = true) (hr : bK = M.code (M.hd y)) (hsub : ZJ (M.code (M.hd y)).2 = []) (hev : Zj4 live ((M.L y).map (·.1)) (M.startE P ext A cd cm fu orc) = some (bK, tv, bl, ob)) (ho : ∀ p ∈ ob, p.1 = p.2) (hl : live.length = H0.length) (hn : live.Nodup) (hk : ZdM M.pre.length live = true) (ht : Zgf (rho live far) tv (M.L y)) (hbl : ZbY (rho live far) bl H0) : M.Enter P ext A (some (.inl y)) := by
  intro y' hy
  obtain rfl := Option.some.inj hy
  obtain ⟨T, s, h1, rfl, rfl, rfl, h4⟩ := ZiB hev
  exact ⟨cd, cm, fu, orc, _, h1, ho, h4, hL, hr, (fun j hj => by rw [show bK.2 = (M.code (M.hd y)).2 from congrArg Prod.snd hr, hsub] at hj; cases hj), live, H0, js, hw, hp, .inr ⟨i, hi⟩, hk, ZhO hl hn ht hbl⟩
end
end Mach
/-! ### Functions without loops -/
section
variable {P : Program} {ext : FuncId → Option Ext} {fn : Func} {pre : List AObj} {A : Array Value} {R : Type} {V : R → Value} {Po : R → List (Option AObj)} {live : List Nat} {bl : List (Option AObj)} {ob : List (Bool × Bool)} {fu : Nat} {orc : Orc}
noncomputable def Zv2 (P : Program) (ext : FuncId → Option Ext) (fn : Func) (pre : List AObj) (A : Array Value) (fu : Nat) (orc : Orc) : Option Stop :=
  ZgG P ext fn fn.ntmps fu (ZeZ fn) [] (ZcO 0 A.toList .nil) ⟨Zeb 0 pre, pre.length, [], orc, []⟩
noncomputable def Fx (P : Program) (ext : FuncId → Option Ext) (fn : Func) (pre : List AObj) (A : Array Value) {R : Type} (V : R → Value) (Po : R → List (Option AObj)) (o : Option R) : Prop :=
  ∀ r, o = some r → ∃ fu orc u s, Zv2 P ext fn pre A fu orc = some (.fin u s) ∧ (∀ p ∈ s.ob, p.1 = p.2) ∧ s.n ≤ far ∧ ∃ live, ZoA pre.length (V r) (Po r) u s live
theorem Zxf : Fx P ext fn pre A V Po none := fun _ h => by cases h
theorem Zbw {c : Prop} [Decidable c] {B C : Option R} (h1 : c → Fx P ext fn pre A V Po B) (h2 : ¬ c → Fx P ext fn pre A V Po C) : Fx P ext fn pre A V Po (if c then B else C) := by
  by_cases h : c
  · rw [if_pos h]; exact h1 h
  · rw [if_neg h]; exact h2 h
theorem Zxg {α : Type} {o : Option α} {k : α → Option R} (h : ∀ r, o = some r → Fx P ext fn pre A V Po (k r)) : Fx P ext fn pre A V Po (o.bind k) := by
  cases o with
  | none => exact Zxf
  | some r => exact h r rfl
theorem ZaM {r : R} {u : Value} (hev : ZaL live (Zv2 P ext fn pre A fu orc) = some (u, bl, ob)) (ho : ∀ p ∈ ob, p.1 = p.2) (hl : live.length = (Po r).length) (hn : live.Nodup) (hk : ZdM pre.length live = true) (hv : V r = Za5 (rho live far) 3 u ∧ Zau 3 u = true) (hbl : ZbY (rho live far) bl (Po r)) : Fx P ext fn pre A V Po (some r) := by
  intro r' hr
  obtain rfl := Option.some.inj hr
  obtain ⟨s, h1, rfl, rfl, h4⟩ := Zn9 hev
  exact ⟨fu, orc, u, s, h1, ho, h4, live, hl, hn, hk, hv, ZfB hbl⟩
theorem ZmZ (F : Fit P ext) {f : FuncId} (hfn : P.funcs[f]? = some fn) (hb : fn.body = some (ZeZ fn)) (hA : Nat.ble A.size fn.ntmps = true) (hPo : ∀ r, (Po r).length ≤ far) {o : Option R} (h : Fx P ext fn pre A V Po o) {r : R} (hr : o = some r) : LSpec P f A pre (V r) (Po r) := by
  obtain ⟨fu, orc, u, s, h1, h2, h3, live, h4⟩ := h r hr
  exact Zvm F hfn hb hA h1 h2 h3 (hPo r) live h4
end
theorem Zaj {P : Program} {f : FuncId} {A A' : Array Value} {pre : List (Nat × AObj)} {v : Value} {post : List (Nat × Option AObj)} {n dn : Nat} (e : A = A') (h : ZB P f A' pre v post n dn) : ZB P f A pre v post n dn := e ▸ h
def ZaN (a b : List Int) : Bool := Za a == Za b
end Ev
end Go.Proofs.YtlbbiflodemagaaDoor
/- Rows of elements of any kind: each element so many cells. -/
namespace Go.Proofs.YtlbbiflodemagaaDoor
open Go.RowKit
namespace Ev
def ZiZ : List Cell → Bool
 | [] => true
 | .any :: _ => false
 | .i _ :: l => ZiZ l
 | .b _ :: l => ZiZ l
 | .k _ _ :: l => ZiZ l
 | .s _ :: l => ZiZ l
 | .m _ _ _ _ :: l => ZiZ l
structure Enc (α : Type) where
 cel : α → List Cell
 w : Nat
 dflt : α
 clen : ∀ a, (cel a).length = w
 sure : ∀ a, ZiZ (cel a) = true
def Enc.enc {α : Type} (E : Enc α) (a : α) : List Value := ZF (E.cel a)
theorem Enc.len {α : Type} (E : Enc α) (a : α) : (E.enc a).length = E.w := by unfold Enc.enc ZF; rw [List.length_map, E.clen]
def Zer : Value → Bool
 | .pointer (some ⟨_, _, some _⟩) => true
 | .slice (some ⟨_, _, some _⟩) _ _ => true
 | v => atom v
theorem ZoR : ∀ l : List Cell, ZiZ l = true → Z4 Zer (ZF l) = true
 | [], _ => rfl
 | c :: l, h => by
  show (Zer (Zdu c) && Z4 Zer (ZF l)) = true
  cases c with
  | any => cases h
  | _ => rw [ZoR l h]; rfl
theorem Enc.atoms {α : Type} (E : Enc α) (a : α) : Z4 Zer (E.enc a) = true := ZoR _ (E.sure a)
def Zb {α : Type} (E : Enc α) (L : List α) : List Value := L.flatMap E.enc
def rowC {α : Type} (E : Enc α) (L : List α) : List Cell := L.flatMap E.cel
section
variable {α : Type} {E : Enc α}
theorem Zl8 : Zb E [] = [] := rfl
theorem ZeK (x : α) (L : List α) : Zb E (x :: L) = E.enc x ++ Zb E L := rfl
theorem ZnZ (L M : List α) : Zb E (L ++ M) = Zb E L ++ Zb E M := by simp [Zb]
theorem Zl9 : ∀ L : List α, (Zb E L).length = L.length * E.w
 | [] => by simp [Zl8]
 | x :: L => by rw [ZeK, List.length_append, Zl9 L, E.len, List.length_cons, Nat.add_mul, Nat.one_mul, Nat.add_comm]
theorem ZqA : ∀ (i : Nat) (L : List α), (Zb E L).drop (i * E.w) = Zb E (L.drop i)
 | 0, L => by simp
 | i + 1, [] => by simp [Zl8]
 | i + 1, x :: L => by
  rw [ZeK, List.drop_succ_cons, ← ZqA i L, Nat.add_mul, Nat.one_mul, Nat.add_comm, ← List.drop_drop, ← E.len x, List.drop_left]
theorem ZqB : ∀ (i : Nat) (L : List α), (Zb E L).take (i * E.w) = Zb E (L.take i)
 | 0, L => by simp [Zl8]
 | i + 1, [] => by simp [Zl8]
 | i + 1, x :: L => by
  rw [ZeK, List.take_succ_cons, ZeK, ← ZqB i L, Nat.add_mul, Nat.one_mul, Nat.add_comm, List.take_append, E.len]
  rw [List.take_of_length_le (by rw [E.len]; omega), Nat.add_sub_cancel_left]
theorem ZqC {L : List α} {i : Nat} (h : i < L.length) (d : α) : L.drop i = L.getD i d :: L.drop (i + 1) := by
 rw [List.getD_eq_getElem?_getD, List.getElem?_eq_getElem h, Option.getD_some]
 exact List.drop_eq_getElem_cons h
theorem ZtB {L : List α} {o i q : Nat} (hi : i < L.length) (ho : o = i * E.w + q) (hq : q ≤ E.w) : (Zb E L).drop o = (E.enc (L.getD i E.dflt)).drop q ++ Zb E (L.drop (i + 1)) := by
 subst ho
 rw [← List.drop_drop, ZqA, ZqC hi E.dflt, ZeK, List.drop_append, E.len, Nat.sub_eq_zero_of_le hq, List.drop_zero]
theorem Zsk {β : Type} : ∀ (m : Nat) (l : List β), m ≤ l.length → Z8 m l = some (l.take m)
 | 0, l, _ => by simp [Z8]
 | m + 1, [], h => by simp at h
 | m + 1, x :: l, h => by
  simp only [Z8]
  rw [Zsk m l (by simpa using h)]
  rfl
theorem Zwv {L : List α} {o i q m : Nat} (hi : i < L.length) (ho : o = i * E.w + q) (hq : q + m ≤ E.w) : Z8 m ((Zb E L).drop o) = some (((E.enc (L.getD i E.dflt)).drop q).take m) := by
 have hl := E.len (L.getD i E.dflt)
 rw [ZtB hi ho (by omega), Zsk _ _ (by simp only [List.length_append, List.length_drop, hl]; omega), List.take_append]
 have : m - ((E.enc (L.getD i E.dflt)).drop q).length = 0 := by simp only [List.length_drop, hl]; omega
 rw [this, List.take_zero, List.append_nil]
theorem Zek : ∀ {cs : List Cell}, ZiZ cs = true → ZcN (ZF cs) cs = true
 | [], _ => rfl
 | c :: l, h => by
  cases c with
  | any => cases h
  | i n => show ((n == n) && ZcN (ZF l) l) = true; rw [Zek (cs := l) h]; simp
  | b q => show ((q == q) && ZcN (ZF l) l) = true; rw [Zek (cs := l) h]; simp
  | s x => show (dP (x = x) && ZcN (ZF l) l) = true; rw [Zek (cs := l) h]; simp [dP]
  | m id o n c =>
   show (dP (Zdu (.m id o n c) = Zdu (.m id o n c)) && ZcN (ZF l) l) = true
   rw [Zek (cs := l) h, Zp rfl]; rfl
  | k kk n =>
   by_cases hk : kk = .i64
   ·subst hk; show ((decide (IntKind.i64 = IntKind.i64) && (n == n)) && ZcN (ZF l) l) = true; rw [Zek (cs := l) h]; simp
   ·have e : ZcN (.int kk n :: ZF l) (.k kk n :: l) = ((decide (kk = kk) && (n == n)) && ZcN (ZF l) l) := by cases kk <;> rfl
    show ZcN (.int kk n :: ZF l) (.k kk n :: l) = true
    rw [e, Zek (cs := l) h]; simp
theorem Zc0 {L : List α} {o i q m : Nat} {cs : List Cell} (hi : i < L.length) (ho : o = i * E.w + q) (hq : q + m ≤ E.w) (hs : ZiZ cs = true) (hc : ((E.enc (L.getD i E.dflt)).drop q).take m = ZF cs) : Za4 (Z8 m ((Zb E L).drop o)) cs = true := by
 rw [Zwv hi ho hq, hc]
 exact Zek hs
theorem ZhP {L : List α} {o i q : Nat} {l : List Value} (x : α) (hi : i < L.length) (ho : o = i * E.w + q) (hq : q + l.length ≤ E.w) (hx : Zex (E.enc (L.getD i E.dflt)) q l = E.enc x) : o + l.length ≤ (Zb E L).length ∧ Zex (Zb E L) o l = Zb E (L.set i x) := by
 have hl := E.len (L.getD i E.dflt)
 have hle : o + l.length ≤ (Zb E L).length := by
  have : (i + 1) * E.w ≤ L.length * E.w := Nat.mul_le_mul_right _ hi
  rw [Nat.add_mul, Nat.one_mul] at this
  rw [Zl9]; omega
 refine ⟨hle, ?_⟩
 have e1 : L.set i x = L.take i ++ x :: L.drop (i + 1) := by rw [List.set_eq_take_append_cons_drop, if_pos hi]
 rw [e1, ZnZ, ZeK, ← hx]
 unfold Zex
 have h1 : (Zb E L).take o = Zb E (L.take i) ++ (E.enc (L.getD i E.dflt)).take q := by
  have hd : Zb E L = Zb E (L.take i) ++ (E.enc (L.getD i E.dflt) ++ Zb E (L.drop (i + 1))) := by
   rw [← ZeK, ← ZqC hi, ← ZnZ, List.take_append_drop]
  rw [hd, List.take_append]
  have hlen : (Zb E (L.take i)).length = i * E.w := by rw [Zl9, List.length_take]; rw [Nat.min_eq_left (by omega)]
  rw [List.take_of_length_le (by omega), hlen, show o - i * E.w = q by omega, List.take_append]
  rw [show q - (E.enc (L.getD i E.dflt)).length = 0 by omega, List.take_zero, List.append_nil]
 have h2 : (Zb E L).drop (o + l.length) = (E.enc (L.getD i E.dflt)).drop (q + l.length) ++ Zb E (L.drop (i + 1)) := ZtB hi (by omega) hq
 rw [h1, h2]
 simp
theorem ZaI {L M R : List α} {n m : Nat} (hm : m = n * E.w) (hn : n ≤ L.length) (hR : L.take n ++ M = R) : m ≤ (Zb E L).length ∧ (Zb E L).take m ++ Zb E M = Zb E R := by
 subst hm hR
 refine ⟨by rw [Zl9]; exact Nat.mul_le_mul_right _ hn, ?_⟩
 rw [ZqB, ZnZ]
/-! ### The same, as told cells -/
/-! ### Such a row is a row of atoms -/
theorem Zke : ∀ L : List α, Z4 Zer (Zb E L) = true
 | [] => rfl
 | x :: L => by
  have app : ∀ (a b : List Value), Z4 Zer a = true → Z4 Zer b = true → Z4 Zer (a ++ b) = true := by
   intro a b ha hb
   induction a with
   | nil => exact hb
   | cons y a ih =>
    simp only [Z4, Bool.and_eq_true] at ha
    show (Zer y && Z4 Zer (a ++ b)) = true
    rw [ha.1, ih ha.2]; rfl
  rw [ZeK]
  exact app _ _ (E.atoms x) (Zke L)
theorem Zoa {p q : Value → Bool} (h : ∀ v, p v = true → q v = true) : ∀ {l : List Value}, Z4 p l = true → Z4 q l = true
 | [], _ => rfl
 | x :: l, hl => by
  simp only [Z4, Bool.and_eq_true] at hl ⊢
  exact ⟨h x hl.1, Zoa h hl.2⟩
theorem Zkq {v : Value} (h : Zer v = true) : (∃ k o z, v = .pointer (some ⟨k, o, some z⟩)) ∨ (∃ k o z n c, v = .slice (some ⟨k, o, some z⟩) n c) ∨ atom v = true := by
 unfold Zer at h
 split at h
 ·exact .inl ⟨_, _, _, rfl⟩
 ·exact .inr (.inl ⟨_, _, _, _, _, rfl⟩)
 ·exact .inr (.inr h)
theorem Zsl (d : Nat) {v : Value} (h : Zer v = true) : Zau d v = true := by
 rcases Zkq h with ⟨k, o, z, rfl⟩ | ⟨k, o, z, n, c, rfl⟩ | h
 ·cases d <;> rfl
 ·cases d <;> rfl
 ·cases v with
  | agg => simp [atom] at h
  | tuple => simp [atom] at h
  | func f a b =>
   cases f with
   | func f =>
    simp only [atom, Bool.and_eq_true, Array.isEmpty_iff] at h
    obtain ⟨rfl, rfl⟩ := h
    cases d <;> rfl
   | _ => simp [atom] at h
  | _ => cases d <;> rfl
theorem ZuA (m d : Nat) {v : Value} (h : Zer v = true) : ZbP m d v = true := by
 rcases Zkq h with ⟨k, o, z, rfl⟩ | ⟨k, o, z, n, c, rfl⟩ | h
 ·cases d <;> rfl
 ·cases d <;> rfl
 ·cases v with
  | agg => simp [atom] at h
  | tuple => simp [atom] at h
  | pointer a => cases a with
   | none => cases d <;> exact h
   | some a => simp [atom] at h
  | slice a n c => cases a with
   | none => cases d <;> exact h
   | some a => simp [atom] at h
  | map a => cases a with
   | none => cases d <;> exact h
   | some a => simp [atom] at h
  | _ => cases d <;> exact h
theorem ZuB {ρ : Nat → Nat} (d : Nat) {v : Value} (h : Zer v = true) : Za5 ρ d v = v := by
 rcases Zkq h with ⟨k, o, z, rfl⟩ | ⟨k, o, z, n, c, rfl⟩ | h
 ·cases d <;> rfl
 ·cases d <;> rfl
 ·exact Zim d h
theorem Zna (ρ : Nat → Nat) (d : Nat) (L : List α) : (Zb E L).map (Za5 ρ d) = Zb E L := by
 have : ∀ l : List Value, Z4 Zer l = true → l.map (Za5 ρ d) = l := fun l => by
  induction l with
  | nil => intro _; rfl
  | cons y l ih =>
   intro h
   simp only [Z4, Bool.and_eq_true] at h
   rw [List.map_cons, ih h.2, ZuB d h.1]
 exact this _ (Zke L)
theorem ZnA (d : Nat) (L : List α) : Z4 (Zau d) (Zb E L) = true := Zoa (fun _ => Zsl d) (Zke L)
theorem Zo (m d : Nat) (L : List α) : Z4 (ZbP m d) (Zb E L) = true := Zoa (fun _ => ZuA m d) (Zke L)
theorem ZW (ρ : Nat → Nat) (L : List α) (t : TypeId) : ZhN ρ (.cells (Zb E L) t) (.cells (Zb E L) t) := ⟨rfl, ⟨[], by rw [Zna, List.append_nil]⟩, ZnA 1 L⟩
theorem ZgH (ρ : Nat → Nat) (L : List α) (t : TypeId) : AObj.cells (Zb E L) t = Zi9 ρ (.cells (Zb E L) t) := by
 show _ = AObj.cells ((Zb E L).map (Za5 ρ 1)) t
 rw [Zna]
end
theorem Zx2 {b : Bool} (h : ¬ (b = true)) : (!b) = true := by cases b <;> simp_all
theorem Zx3 {b : Bool} (h : b = true) : (!b) = false := by subst h; rfl
def Zfa (k : IntKind) : Enc Int := ⟨fun n => match k with | .i64 => [.i n] | k => [.k k n], 1, 0, fun _ => by cases k <;> rfl, fun _ => by cases k <;> rfl⟩
abbrev eI : Enc Int := Zfa .i64
abbrev vi (x : Int) : Value := .int .i64 x
abbrev vs (k o n c : Nat) : Value := .slice (some ⟨k, o, none⟩) n c
abbrev vp (k o : Nat) : Value := .pointer (some ⟨k, o, none⟩)
theorem bT {a b : Int} (h : a = b) : (a == b) = true := beq_iff_eq.2 h
theorem bF {a b : Int} (h : ¬ a = b) : (a == b) = false := beq_eq_false_iff_ne.2 h
/-! ### Rows that never change -/
noncomputable abbrev ms {α : Type} (E : Enc α) (L : List α) : Value := .slice (some ⟨code (rowC E L), 0, some 0⟩) L.length L.length
noncomputable abbrev mp {α : Type} (E : Enc α) (L : List α) (o : Nat) : Value := .pointer (some ⟨code (rowC E L), o, some 0⟩)
/-! ### Bytes as strings -/
end Ev
end Go.Proofs.YtlbbiflodemagaaDoor
/- Arguments that are slices, opened: the block they lie in, and each element as what is read of it. -/
namespace Go.Proofs.YtlbbiflodemagaaDoor
open Go.ChangeShapes Go.WideShapes Go.ChangeAt Go.RowKit Go.Deep
namespace Ev
section
variable {H : Type} {enc : TypeId × Value → H} {P : Program} {w : World}
def DecL (w : World) (cs : List Value) (l : List Cell) : Prop := cs.length = l.length ∧ ∀ (i : Nat) x y, l[i]? = some x → cs[i]? = some y → DecC w x y
theorem DecL.vr {w : World} {cs : List Value} {l : List Cell} (h : DecL w cs l) : VRs (ιMk w) (ZF l).toArray cs.toArray :=
 ⟨by simp [ZF, h.1], fun i x y hx hy => by
  have hx' : (ZF l)[i]? = some x := by simpa using hx
  have hy' : cs[i]? = some y := by simpa using hy
  unfold ZF at hx'
  rw [List.getElem?_map] at hx'
  cases hb : l[i]? with
  | none => rw [hb] at hx'; cases hx'
  | some z =>
   rw [hb] at hx'
   injection hx' with hx'
   subst hx'
   exact (h.2 i z y hb hy').vr⟩
/-! ### Parts of a value, by where they lie among its cells -/
end
end Ev
end Go.Proofs.YtlbbiflodemagaaDoor
/- Functions told of whole runs: their own loops run on. -/
namespace Go.Proofs.YtlbbiflodemagaaDoor
open Go.RowKit
namespace Ev
section
variable {P : Program} {ext : FuncId → Option Ext} {pre : List AObj} {A : Array Value} {R : Type} {V : R → Value} {Po : R → List (Option AObj)} {live : List Nat} {bl : List (Option AObj)} {ob : List (Bool × Bool)} {fu : Nat} {orc : Orc}
noncomputable def ZaR (P : Program) (ext : FuncId → Option Ext) (f : FuncId) (pre : List AObj) (A : Array Value) (fu : Nat) (orc : Orc) : Option Stop :=
 match ZdE P ext fu f A ⟨Zeb 0 pre, pre.length, [], orc, []⟩ with
 | some (v, s) => some (.fin v s)
 | none => none
theorem Zti (F : Fit P ext) {f : FuncId} {v u : Value} {post : List (Option AObj)} {s : St} (hev : ZaR P ext f pre A fu orc = some (.fin u s)) (ho : ∀ p ∈ s.ob, p.1 = p.2) (hn : s.n ≤ far) (hle : post.length ≤ far) (live : List Nat) (h : ZoA pre.length v post u s live) : LSpec P f A pre v post := by
 intro ι w args' hd ha he
 have hc : ZdE P ext fu f A ⟨Zeb 0 pre, pre.length, [], orc, []⟩ = some (u, s) := by
  unfold ZaR at hev
  split at hev
  ·rename_i v1 s1 h1
   injection hev with hev
   injection hev with q1 q2
   rw [h1, q1, q2]
  ·cases hev
 have hF := (Zcz (P := P) F fu).2.2.2.1 f A _ u s hc ho ι w args' ha (by show Emb P ι (Zeb 0 pre).get w; rw [ZfA]; exact he)
  ⟨hn, fun k h1 h2 => by
   cases hk : ι k with
   | none => rfl
   | some b => exact absurd (hd k (by rw [hk]; simp)) (by have h3 : pre.length ≤ k := h1; have h4 : s.n ≤ 1000000000 := hn; have h5 : k < s.n := h2; unfold Zf9; omega)⟩
 refine hF.mono ?_
 rintro e w' ⟨v', ι', rfl, g1, g2, g3⟩
 exact Zmp hle hd h (by have := g1; simp only [ZfA] at this; exact this) g3
def Gx (P : Program) (f : FuncId) (pre : List AObj) (A : Array Value) {R : Type} (V : R → Value) (Po : R → List (Option AObj)) (o : Option R) : Prop :=
 ∀ r, o = some r → LSpec P f A pre (V r) (Po r)
variable {f : FuncId}
theorem ZbI : Gx P f pre A V Po none := fun _ h => by cases h
theorem Zh {c : Prop} [Decidable c] {B C : Option R} (h1 : c → Gx P f pre A V Po B) (h2 : ¬ c → Gx P f pre A V Po C) : Gx P f pre A V Po (if c then B else C) := by
 by_cases h : c
 ·rw [if_pos h]; exact h1 h
 ·rw [if_neg h]; exact h2 h
theorem ZaQ {α : Type} {o : Option α} {k : α → Option R} (h : ∀ r, o = some r → Gx P f pre A V Po (k r)) : Gx P f pre A V Po (o.bind k) := by
 cases o with
 | none => exact ZbI
 | some r => exact h r rfl
theorem Zc4 (F : Fit P ext) {r : R} {u : Value} (hev : ZaL live (ZaR P ext f pre A fu orc) = some (u, bl, ob)) (ho : ∀ p ∈ ob, p.1 = p.2) (hl : live.length = (Po r).length) (hn : live.Nodup) (hk : ZdM pre.length live = true) (hv : V r = Za5 (rho live far) 3 u ∧ Zau 3 u = true) (hbl : ZbY (rho live far) bl (Po r)) (hle : (Po r).length ≤ far) : Gx P f pre A V Po (some r) := by
 intro r' hr
 obtain rfl := Option.some.inj hr
 obtain ⟨s, h1, rfl, rfl, h4⟩ := Zn9 hev
 exact Zti F h1 ho h4 hle live ⟨hl, hn, hk, hv, ZfB hbl⟩
noncomputable def Zj5 (P : Program) (ext : FuncId → Option Ext) (f : FuncId) (pre : List AObj) (A : Array Value) (fu : Nat) (orc : Orc) : Option (Value × List (Bool × Bool)) :=
 match Zd8 P ext fu f A ⟨Zeb 0 pre, pre.length, [], orc, []⟩ with
 | some (v, s) => bif Nat.ble s.n 500000000 then some (v, s.ob) else none
 | none => none
theorem Zm3 (F : Fit P ext) {r : R} {u : Value} (hev : Zj5 P ext f pre A fu orc = some (u, ob)) (ho : ∀ p ∈ ob, p.1 = p.2) (hv : V r = u) (ht : Zcs u = true) (hp : Po r = pre.map fun _ => none) (hle : (Po r).length ≤ far) : Gx P f pre A V Po (some r) := by
 intro r' hr
 obtain rfl := Option.some.inj hr
 unfold Zj5 at hev
 split at hev
 ·rename_i v s hc
  obtain ⟨hn, hev⟩ := Zn hev
  injection hev with hev
  simp only [Prod.mk.injEq] at hev
  obtain ⟨rfl, rfl⟩ := hev
  have hn : s.n ≤ 500000000 := Nat.le_of_ble_eq_true hn
  intro ι w args' hd ha he
  have hF := (Zlw F fu).does f A _ v s hc ho ι w args' ha (by show Emb P ι (Zeb 0 pre).get w; rw [ZfA]; exact he)
   ⟨by show s.n ≤ 1000000000; omega, fun k h1 h2 => by
    cases hk : ι k with
    | none => rfl
    | some b => exact absurd (hd k (by rw [hk]; simp)) (by have h3 : pre.length ≤ k := h1; have h5 : k < s.n := h2; unfold Zf9; omega)⟩
  refine hF.mono ?_
  rintro e w' ⟨ι', rfl, g1, g2⟩
  have hl : (Po r).length = pre.length := by rw [hp, List.length_map]
  have hfar : pre.length ≤ far := hl ▸ hle
  have hf := Zmp (v := .bool true) (u := .bool true) (v' := .bool true) (post := Po r) (s := s) (live := List.range pre.length) hle hd ⟨by rw [hl, List.length_range], List.nodup_range, Mach.keeps_range hfar, ⟨rfl, rfl⟩, fun j o hj => by
   rw [hp] at hj
   exfalso
   unfold lkO at hj
   rw [List.getElem?_map] at hj
   cases hx : pre[j]? <;> rw [hx] at hj <;> cases hj⟩ (by have := g1; simp only [ZfA] at this; exact this) (.atom rfl)
  rcases hf with ⟨v', ι', _, g2, g3, _⟩ | ⟨hz, _⟩
  ·rw [← hv] at ht ⊢
   exact .inr ⟨ht, ι', rfl, g2, g3⟩
  ·cases hz
 ·cases hev
end
end Ev
end Go.Proofs.YtlbbiflodemagaaDoor
/- Strings, as lists of their bytes. -/
namespace Go.Proofs.YtlbbiflodemagaaDoor
open Go.RowKit
namespace Ev
set_option linter.unusedVariables false
theorem oK {l : List (Bool × Bool)} {a : Int} {k : Nat} (hl : ∀ q ∈ l, q.1 = q.2) (h : a = (k : Int) := by omega) : ∀ q ∈ ((a == Int.ofNat k), true) :: l, q.1 = q.2 := Zc (beq_iff_eq.2 h) hl
abbrev bl (l : List Int) : List Int := l
theorem Z6 (l : List Int) : (Za l).size = l.length := by
 show (Za l).data.size = l.length
 rw [Zc7]; simp [u8s]
theorem Zv3 {M : List Int} (h : ZL M = true) : Zb (Zfa .u8) M = ZdC (Za M) := by
 unfold Zb ZdC
 rw [Zc7]
 simp only [u8s, List.map_map]
 have : ∀ n ∈ M, (Zfa .u8).enc n = [Value.int .u8 ((UInt8.ofNat n.toNat).toNat : Nat)] := fun n hn => by
  obtain ⟨h0, h1⟩ := ZeJ h hn
  show [Value.int .u8 n] = _
  have : (UInt8.ofNat n.toNat).toNat = n.toNat := by
   rw [UInt8.toNat_ofNat']; omega
  rw [this, Int.toNat_of_nonneg h0]
 clear h
 induction M with
 | nil => rfl
 | cons n M ih =>
  rw [List.flatMap_cons, this n (List.mem_cons_self ..), ih fun m hm => this m (List.mem_cons_of_mem _ hm)]
  rfl
theorem ZwB {x : ByteArray} {M : List Int} {m : Nat} (h : x = Za M) (hb : ZL M = true) (hm : m = M.length) : m = x.size ∧ Zb (Zfa .u8) M = ZdC x := by
 subst h hm
 exact ⟨(Z6 M).symm, Zv3 hb⟩
theorem catS (a b : List Int) : Za a ++ Za b = Za (a ++ b) := by
 apply ByteArray.ext
 rw [ByteArray.data_append, Zc7, Zc7, Zc7]; simp [u8s]
theorem sE {a b : ByteArray} (h : a = b := by first | (simp only [catS]; done) | (simp only [catS, bl, List.append_assoc, List.cons_append, List.nil_append, List.append_nil]; done) | rfl) : a = b := h
theorem ZeL {a b : ByteArray} {x y : List Int} (h1 : a = Za x) (h2 : b = Za y) (h : x.length + y.length ≤ 1000000) : ((a.size + b.size : Nat) : Int) ≤ IntKind.i64.max := by
 rw [h1, h2, Z6, Z6]
 have : IntKind.i64.max = 9223372036854775807 := by decide
 omega
end Ev
end Go.Proofs.YtlbbiflodemagaaDoor
/- Rows that may lack, at a head; strings within rows; parts of strings. -/
namespace Go.Proofs.YtlbbiflodemagaaDoor
open Go.RowKit
namespace Ev
set_option linter.unusedVariables false
section
variable {α : Type} {E : Enc α}
theorem Zl (ρ : Nat → Nat) (L : List α) (t : TypeId) : ZhN ρ (.cells (Zb E L) t true) (.cells (Zb E L) t true) := ⟨rfl, by rw [Zna], ZnA 1 L⟩
theorem Zz (ρ : Nat → Nat) (L : List α) (t : TypeId) : AObj.cells (Zb E L) t true = Zi9 ρ (.cells (Zb E L) t true) := by
 show _ = AObj.cells ((Zb E L).map (Za5 ρ 1)) t true
 rw [Zna]
theorem Zx4 {L : List α} (h : 0 < L.length) (hw : 0 < E.w) : Zb E L ≠ [] := fun e => by
 have h1 : (Zb E L).length = 0 := by rw [e]; rfl
 cases L with
 | nil => cases h
 | cons x L =>
  unfold Zb at h1
  rw [List.flatMap_cons, List.length_append, E.len] at h1
  omega
theorem Zsm : ∀ c, WkC c c
 | [] => trivial
 | _ :: c => ⟨.inl rfl, Zsm c⟩
theorem Zp8 {L : List α} {t : TypeId} (h : 0 < L.length) (hw : 0 < E.w) : WkO (some (.cells (Zb E L) t)) (some (.cells (Zb E L) t true)) := .inr (.inr ⟨_, _, _, rfl, rfl, Zsm _, Zx4 h hw⟩)
theorem wk_c {c c' : List Value} {t : TypeId} (h : WkC c c') : WkO (some (.cells c t)) (some (.cells c' t)) := .inr (.inl ⟨_, _, _, _, rfl, rfl, h⟩)
end
theorem bEq {a b : ByteArray} : (a == b) = true ↔ a = b := by
 constructor
 ·intro h
  cases a; cases b
  congr 1
  exact eq_of_beq (show (_ == _) = true from h)
 ·intro h
  subst h
  show (a.data == a.data) = true
  simp
theorem ZtC {P : Program} {e : FuncId → Option Ext} {f : FuncId} {g : Array Value → St → Out} (F : Fit P e) (D : ZeT P f g) : Fit P (fun x => bif Nat.beq x f then some (.hp g) else e x) :=
 have cs : ∀ {x : Nat} {y : Ext}, (bif Nat.beq x f then some (.hp g) else e x) = some y → (x = f ∧ y = .hp g) ∨ e x = some y := fun {x y} h => by
  cases hb : Nat.beq x f with
  | true => rw [hb] at h; injection h with h; exact .inl ⟨Nat.eq_of_beq_eq_true hb, h.symm⟩
  | false => rw [hb] at h; exact .inr h
 ⟨F.mixed, F.go, fun x g' h => (cs h).elim (fun q => by cases q.2) (F.fn x g'), fun x g' h => (cs h).elim (fun q => by obtain ⟨rfl, q2⟩ := q; injection q2 with q2; subst q2; exact D) (F.hp x g'), fun x S h => (cs h).elim (fun q => by cases q.2) (F.tc x S), fun x n h => (cs h).elim (fun q => by cases q.2) (F.mark x n), fun x k y h => (cs h).elim (fun q => by cases q.2) (F.ext x k y)⟩
abbrev OkL (l : List (Bool × Bool)) : Prop := ∀ q ∈ l, q.1 = q.2
def Zr : Enc (List Int) := ⟨fun l => [.s (Za l)], 1, [], fun _ => rfl, fun _ => rfl⟩
def bAt (M : List Int) (i : Nat) : Int := (((UInt8.ofNat (M.getD i 0).toNat).toNat : Nat) : Int)
theorem Zv4 {M : List Int} (h : ZL M = true) {i : Nat} (hi : i < M.length) : bAt M i = M.getD i 0 := by
 have hm : M.getD i 0 ∈ M := by
  rw [show M.getD i 0 = M[i] by simp [List.getD, hi]]
  exact List.getElem_mem hi
 obtain ⟨h0, h1⟩ := ZeJ h hm
 unfold bAt
 rw [UInt8.toNat_ofNat']
 omega
theorem Zj6 {x : ByteArray} {M : List Int} {z : Int} {i : Nat} (hx : x = Za M) (hz : z = (i : Int)) (hi : i < M.length) : ∃ y, 0 ≤ z ∧ x[z.toNat]? = some y ∧ bAt M i = (y.toNat : Int) := by
 subst hx hz
 refine ⟨UInt8.ofNat (M.getD i 0).toNat, by omega, ?_, rfl⟩
 have hs : i < (Za M).size := by rw [Z6]; exact hi
 rw [show ((i : Int)).toNat = i by omega, getElem?_pos (Za M) i hs]
 congr 1
 have : ∀ (b : ByteArray) (l : List UInt8) (hb : b = ⟨l.toArray⟩) (h : i < b.size), b[i] = l[i]'(by subst hb; exact h) := fun b l hb h => by subst hb; rfl
 rw [this _ _ (Zc7 M) hs]
 simp [u8s, List.getD, hi]
theorem sSl {x : ByteArray} {M R : List Int} {l h : Int} (hx : x = Za M) (h0 : 0 ≤ l) (h1 : l ≤ h) (h2 : h ≤ (M.length : Int)) (hR : R = (M.drop l.toNat).take (h.toNat - l.toNat)) :
  0 ≤ l ∧ l ≤ h ∧ h ≤ (x.size : Int) ∧ x.extract l.toNat h.toNat = Za R := by
 subst hx hR
 refine ⟨h0, h1, by rw [Z6]; exact h2, ?_⟩
 apply ByteArray.ext
 rw [ByteArray.data_extract, Zc7, Zc7]
 simp [u8s, List.map_take, List.map_drop, List.take_drop]
 first | done | omega | (congr 1; omega)
theorem Zsn {x : ByteArray} {M R : List Int} {l : Int} (hx : x = Za M) (h0 : 0 ≤ l) (h1 : l ≤ (M.length : Int)) (hR : R = M.drop l.toNat) :
  0 ≤ l ∧ l ≤ (x.size : Int) ∧ (x.size : Int) ≤ (x.size : Int) ∧ x.extract l.toNat (x.size : Int).toNat = Za R := by
 have e : (x.size : Int) = (M.length : Int) := by rw [hx, Z6]
 rw [e]
 obtain ⟨q1, q2, q3, q4⟩ := sSl (R := R) (h := (M.length : Int)) hx h0 h1 (Int.le_refl _) (by rw [hR, List.take_of_length_le]; rw [List.length_drop]; omega)
 exact ⟨q1, q2, by omega, q4⟩
theorem Zso (b : ByteArray) : ∃ L : List Int, b = Za L ∧ ZL L = true := ⟨Zl1 b, Zq1 b, ZoK b⟩
end Ev
end Go.Proofs.YtlbbiflodemagaaDoor
/- awake's parts. -/
namespace Go.Proofs.YtlbbiflodemagaaDoor
open Go.RowKit
namespace Ev
set_option linter.unusedVariables false
def ZoS : List Value := [.int .i64 9, .int .i64 1, .int .i64 0, .int .i64 0, .int .i64 20, .int .i64 0, .int .i64 0, .int .i64 0]
theorem ZuC : LSpec Tryd.prog 9 #[Value.string ⟨#[58, 97, 103, 97, 105, 110, 10, 106, 117, 109, 112, 122, 32, 114, 49, 32, 64, 97, 103, 97, 105, 110, 10, 104, 97, 108, 116, 10]⟩] [] (.tuple #[.slice (some ⟨0, 0, none⟩) 2 2, .int .i64 0, .int .i64 0]) [some (.cells ZoS 24)] := by
 refine (Zc4 fit (R := Unit) (r := ()) (V := fun _ => .tuple #[.slice (some ⟨0, 0, none⟩) 2 2, .int .i64 0, .int .i64 0]) (Po := fun _ => [some (.cells ZoS 24)]) (fu := 3000) (orc := ⟨[], [], [], [], []⟩) (live := [82]) (u := .tuple #[.slice (some ⟨82, 0, none⟩) 2 2, .int .i64 0, .int .i64 0]) (bl := [some (.cells ZoS 24)]) (ob := []) (by kernel_rfl) (by intro p hp; cases hp) rfl (by decide) (by rfl) ⟨by rfl, by rfl⟩ ?_ (by decide)) () rfl
 exact ⟨⟨rfl, ⟨[], rfl⟩, rfl⟩, trivial⟩
end Ev
end Go.Proofs.YtlbbiflodemagaaDoor
/- awake's parts. -/
namespace Go.Proofs.YtlbbiflodemagaaDoor
open Go.RowKit
namespace Ev
set_option linter.unusedVariables false
theorem ZuD : LSpec Tryd.prog 9 #[Value.string ⟨#[10, 104, 97, 108, 116, 32, 114, 49, 10]⟩] [] (.tuple #[.slice none 0 0, .int .i64 2, .int .i64 130]) [] := by
 exact (Zc4 fit (R := Unit) (r := ()) (V := fun _ => .tuple #[.slice none 0 0, .int .i64 2, .int .i64 130]) (Po := fun _ => []) (fu := 3000) (orc := ⟨[], [], [], [], []⟩) (live := []) (u := .tuple #[.slice none 0 0, .int .i64 2, .int .i64 130]) (bl := []) (ob := []) (by kernel_rfl) (by intro p hp; cases hp) rfl (by decide) (by rfl) ⟨by rfl, by rfl⟩ trivial (by decide)) () rfl
end Ev
end Go.Proofs.YtlbbiflodemagaaDoor
/- awake's parts. -/
namespace Go.Proofs.YtlbbiflodemagaaDoor
open Go.RowKit
namespace Ev
set_option linter.unusedVariables false
noncomputable def Ztj (n : Nat) : Za8 := .call [] (.tuple #[.slice (some ⟨n, 0, none⟩) 2 2, .int .i64 0, .int .i64 0]) [(n, some (.cells ZoS 24))] 1
def Zsp (n : Nat) : Prop := ZB Tryd.prog 9 #[Value.string ⟨#[58, 97, 103, 97, 105, 110, 10, 106, 117, 109, 112, 122, 32, 114, 49, 32, 64, 97, 103, 97, 105, 110, 10, 104, 97, 108, 116, 10]⟩] [] (.tuple #[.slice (some ⟨n, 0, none⟩) 2 2, .int .i64 0, .int .i64 0]) [(n, some (.cells ZoS 24))] n 1
theorem Zv5 (n : Nat) : Zsp n :=
 LSpec.callL ZuC [] n [0] rfl (by decide) (fun k hk => by cases hk) (by decide) (by decide) (by rfl) trivial (by rfl) ⟨by rfl, trivial⟩ ⟨by decide, trivial⟩ rfl rfl rfl rfl rfl
noncomputable def Ztk : Za8 := .call [] (.tuple #[.slice none 0 0, .int .i64 2, .int .i64 130]) [] 0
def Zsq (n : Nat) : Prop := ZB Tryd.prog 9 #[Value.string ⟨#[10, 104, 97, 108, 116, 32, 114, 49, 10]⟩] [] (.tuple #[.slice none 0 0, .int .i64 2, .int .i64 130]) [] n 0
theorem Zv6 (n : Nat) : Zsq n :=
 LSpec.callL ZuD [] n [] rfl (by decide) (fun k hk => by cases hk) (by decide) (by decide) (by rfl) trivial (by rfl) trivial trivial rfl rfl rfl rfl rfl
end Ev
end Go.Proofs.YtlbbiflodemagaaDoor
/- Records, and the program's functions as plain ones. -/
namespace Go.Proofs.YtlbbiflodemagaaDoor
open Go.RowKit
namespace Ev
set_option linter.unusedVariables false
inductive Ze7 where
 | r0

def Zkr  (N : Nat) : Option Ze7 :=
 some (.r0 : Ze7)
end Ev
end Go.Proofs.YtlbbiflodemagaaDoor
/- How records are written, and which functions are told. -/
namespace Go.Proofs.YtlbbiflodemagaaDoor
open Go.RowKit
namespace Ev
set_option linter.unusedVariables false
theorem Zj7 {P : Program} {ext : FuncId → Option Ext} (F : Fit P ext) (p : FuncId → Bool) : Fit P (fun f => bif p f then none else ext f) :=
 have h : ∀ f e, (bif p f then none else ext f) = some e → ext f = some e := fun f e h => by cases hp : p f <;> rw [hp] at h <;> first | cases h; done | exact h
 ⟨F.mixed, F.go, fun f g e => F.fn f g (h _ _ e), fun f g e => F.hp f g (h _ _ e), fun f S e => F.tc f S (h _ _ e), fun f n e => F.mark f n (h _ _ e), fun f k e' he => F.ext f k e' (h _ _ he)⟩
theorem toL_inj {a b : ByteArray} : (a.toList == b.toList) = (a == b) := (beq_toListBytes a b).symm
theorem Zv7 (ns : List Int) : ∀ acc : ByteArray, (ns.foldl (fun r n => r.push (UInt8.ofNat n.toNat)) acc).data = acc.data ++ (ns.map fun n => UInt8.ofNat n.toNat).toArray := by
 induction ns with
 | nil => intro acc; simp
 | cons n ns ih => intro acc; rw [List.foldl_cons, ih]; simp [ByteArray.push]
theorem Zja (ns : List Int) : (Za ns).data = (ns.map fun n => UInt8.ofNat n.toNat).toArray := by
 unfold Za; rw [Zv7]; simp
theorem Ziq (a b : List Int) : Za a ++ Za b = Za (a ++ b) := by
 apply ByteArray.ext
 rw [ByteArray.data_append, Zja, Zja, Zja]; simp
theorem Zb3 {x y : List Int} (h : x.length + y.length ≤ 1000000) : (((Za x).size + (Za y).size : Nat) : Int) ≤ IntKind.i64.max := by
 have e : ∀ l : List Int, (Za l).size = l.length := fun l => by
  show (Za l).data.size = l.length
  rw [Zja]; simp
 rw [e, e]
 have : IntKind.i64.max = 9223372036854775807 := by decide
 omega
theorem Zb2 {x y : List Int} (h : ZaN x y = true) : ((Za x).toList == (Za y).toList) = true := toL_inj.trans h
theorem Zbg {x y : List Int} (h : ¬ (ZaN x y = true)) : ((Za x).toList == (Za y).toList) = false := toL_inj.trans (Bool.eq_false_iff.2 h)
theorem Zx5 {x y : List Int} (h : ¬ (ZaN x y = true)) : (!((Za x).toList == (Za y).toList)) = true := by rw [Zbg h]; rfl
theorem Zsr {x y : List Int} (h : ZaN x y = true) : (!((Za x).toList == (Za y).toList)) = false := by rw [Zb2 h]; rfl
theorem sm {ρ : Nat → Nat} {o p : AObj} (h : ZhN ρ o p := by exact ⟨rfl, ⟨[], by rfl⟩, by rfl⟩) : ZhN ρ o p := h
abbrev vq : Value := .int .i64 0
abbrev vf : Value := .bool false
abbrev vT : Value := .bool true
abbrev vn : Value := .slice none 0 0
abbrev vtt : Value := .tuple #[]
noncomputable abbrev dS {α : Type} (a : α) : Bool := dP (a = a)
theorem ltA {p : Prop} (h : p := by first | omega | (simp only [List.length_set, List.length_append, List.length_cons, List.length_nil, List.length_replicate, List.length_take, List.length_drop] at * <;> omega)) : p := h
theorem eqA {p : Prop} (h : p := by first | rfl | omega | (simp only [List.length_set, List.length_append, List.length_cons, List.length_nil, List.length_replicate, List.length_take, List.length_drop] at * <;> omega)) : p := h
theorem rr {p q : Prop} (h : p := by rfl) (h2 : q := by rfl) : p ∧ q := ⟨h, h2⟩
section
variable {l : List (Bool × Bool)}
theorem oT {a b : Int} (hl : ∀ q ∈ l, q.1 = q.2) (h : a = b := by omega) : ∀ q ∈ ((a == b), true) :: l, q.1 = q.2 := Zc (bT h) hl
theorem oF {a b : Int} (hl : ∀ q ∈ l, q.1 = q.2) (h : ¬ a = b := by omega) : ∀ q ∈ ((a == b), false) :: l, q.1 = q.2 := Zc (bF h) hl
theorem oD {a b : Int} (hl : ∀ q ∈ l, q.1 = q.2) (h : a ≠ b := by omega) : ∀ q ∈ ((a != b), true) :: l, q.1 = q.2 := Zc (bne_iff_ne.2 h) hl
theorem oE {a b : Int} (hl : ∀ q ∈ l, q.1 = q.2) (h : a = b := by omega) : ∀ q ∈ ((a != b), false) :: l, q.1 = q.2 := Zc (bne_eq_false_iff_eq.2 h) hl
theorem oY {p : Prop} [Decidable p] (hl : ∀ q ∈ l, q.1 = q.2) (h : p := by omega) : ∀ q ∈ (decide p, true) :: l, q.1 = q.2 := Zc (decide_eq_true h) hl
theorem oN {p : Prop} [Decidable p] (hl : ∀ q ∈ l, q.1 = q.2) (h : ¬ p := by omega) : ∀ q ∈ (decide p, false) :: l, q.1 = q.2 := Zc (decide_eq_false h) hl
theorem oR {α : Type} {a b : α} (hl : ∀ q ∈ l, q.1 = q.2) (h : a = b := by rfl) : ∀ q ∈ (dP (a = b), true) :: l, q.1 = q.2 := Zc (Zp h) hl
theorem oB {a b : Nat} (hl : ∀ q ∈ l, q.1 = q.2) (h : a < b := by omega) : ∀ q ∈ (Nat.blt a b, true) :: l, q.1 = q.2 := Zc (Zvy h) hl
theorem oL {a b : Nat} (hl : ∀ q ∈ l, q.1 = q.2) (h : a < b := by first | omega | (simp only [List.length_set, List.length_append, List.length_cons, List.length_nil, List.length_replicate, List.length_take, List.length_drop] at * <;> omega)) : ∀ q ∈ (Nat.blt a b, true) :: l, q.1 = q.2 := Zc (Zvy h) hl
theorem oI {a b : Int} (hl : ∀ q ∈ l, q.1 = q.2) (h : a = b := by first | rfl | exact Ze6 (by omega)) : ∀ q ∈ ((a == b), true) :: l, q.1 = q.2 := Zc (bT h) hl
end
def ZwC : FuncId → Bool := fun f => Nat.beq f 9 || Nat.beq f 8
noncomputable def Zv8 : FuncId → Option Ext := Zmy (ZrX ZrW) ZwC
theorem Zx6 : Fit Tryd.prog Zv8 := ZrY (Zu6 ZmX) (fun f h => by
 simp only [ZwC, Bool.or_eq_true] at h
 simp only [Nat.beq_eq] at h
 rcases h with rfl | rfl
 ·exact ⟨_, _, Tryd.func9, rfl⟩
 ·exact ⟨_, _, Tryd.func8, rfl⟩
 )
end Ev
end Go.Proofs.YtlbbiflodemagaaDoor
/- Calls do what the plain functions say. -/
namespace Go.Proofs.YtlbbiflodemagaaDoor
open Go.RowKit
namespace Ev
set_option linter.unusedVariables false
set_option maxRecDepth 100000
noncomputable def Zm4  : Ze7 → Value
 | .r0 => vT
noncomputable def ZlI  : Ze7 → List (Option AObj)
 | .r0 => []

theorem Zp9  (N : Nat) : Fx Tryd.prog Zv8 Tryd.f8 [] #[] (Zm4 ) (ZlI ) (Zkr  N) := by
 unfold Zkr
 exact ZaM (r := (.r0 : Ze7)) (fu := 4000) (orc := (Zs [] [] [] [] [(0, (Ztj 0)), (40, Ztk)])) (live := []) (u := vT) (bl := []) (ob := [(dP (Zsq 50), true), (dP (((((Za ([(104 : Int), (97 : Int), (108 : Int), (116 : Int)] : List Int))).size + ((Za ([(10 : Int)] : List Int))).size : Nat) : Int) ≤ IntKind.i64.max), true), (dP (((((Za ([(106 : Int), (117 : Int), (109 : Int), (112 : Int), (122 : Int), (32 : Int), (114 : Int), (49 : Int), (32 : Int), (64 : Int), (76 : Int), (48 : Int)] : List Int))).size + ((Za ([(10 : Int)] : List Int))).size : Nat) : Int) ≤ IntKind.i64.max), true), (dP (((((Za ([(64 : Int)] : List Int))).size + ((Za ([(76 : Int), (48 : Int)] : List Int))).size : Nat) : Int) ≤ IntKind.i64.max), true), (dP (((((Za ([(76 : Int)] : List Int))).size + ((Za ([(48 : Int)] : List Int))).size : Nat) : Int) ≤ IntKind.i64.max), true), (dP (((((Za ([(114 : Int)] : List Int))).size + ((Za ([(49 : Int)] : List Int))).size : Nat) : Int) ≤ IntKind.i64.max), true), (dP (((((Za ([(58 : Int), (76 : Int), (48 : Int)] : List Int))).size + ((Za ([(10 : Int)] : List Int))).size : Nat) : Int) ≤ IntKind.i64.max), true), (dP (((((Za ([(58 : Int)] : List Int))).size + ((Za ([(76 : Int), (48 : Int)] : List Int))).size : Nat) : Int) ≤ IntKind.i64.max), true), (dP (((((Za ([(76 : Int)] : List Int))).size + ((Za ([(48 : Int)] : List Int))).size : Nat) : Int) ≤ IntKind.i64.max), true), (dP (Zsp 0), true)]) (by kernel_rfl) (Zc (Zp (Zv6 50)) <| Zc (Zp (by first | exact Zb3 (x := ([(104 : Int), (97 : Int), (108 : Int), (116 : Int)] : List Int)) (y := ([(10 : Int)] : List Int)) ltA | (simp only [Ziq, List.append_nil, List.nil_append]; exact Zb3 ltA))) <| Zc (Zp (by first | exact Zb3 (x := ([(106 : Int), (117 : Int), (109 : Int), (112 : Int), (122 : Int), (32 : Int), (114 : Int), (49 : Int), (32 : Int), (64 : Int), (76 : Int), (48 : Int)] : List Int)) (y := ([(10 : Int)] : List Int)) ltA | (simp only [Ziq, List.append_nil, List.nil_append]; exact Zb3 ltA))) <| Zc (Zp (by first | exact Zb3 (x := ([(64 : Int)] : List Int)) (y := ([(76 : Int), (48 : Int)] : List Int)) ltA | (simp only [Ziq, List.append_nil, List.nil_append]; exact Zb3 ltA))) <| Zc (Zp (by first | exact Zb3 (x := ([(76 : Int)] : List Int)) (y := ([(48 : Int)] : List Int)) ltA | (simp only [Ziq, List.append_nil, List.nil_append]; exact Zb3 ltA))) <| Zc (Zp (by first | exact Zb3 (x := ([(114 : Int)] : List Int)) (y := ([(49 : Int)] : List Int)) ltA | (simp only [Ziq, List.append_nil, List.nil_append]; exact Zb3 ltA))) <| Zc (Zp (by first | exact Zb3 (x := ([(58 : Int), (76 : Int), (48 : Int)] : List Int)) (y := ([(10 : Int)] : List Int)) ltA | (simp only [Ziq, List.append_nil, List.nil_append]; exact Zb3 ltA))) <| Zc (Zp (by first | exact Zb3 (x := ([(58 : Int)] : List Int)) (y := ([(76 : Int), (48 : Int)] : List Int)) ltA | (simp only [Ziq, List.append_nil, List.nil_append]; exact Zb3 ltA))) <| Zc (Zp (by first | exact Zb3 (x := ([(76 : Int)] : List Int)) (y := ([(48 : Int)] : List Int)) ltA | (simp only [Ziq, List.append_nil, List.nil_append]; exact Zb3 ltA))) <| Zc (Zp (Zv5 0)) Z9) rfl (by decide) (by rfl) rr trivial

theorem Zob  (N : Nat) (r : Ze7) (h : Zkr  N = some r) : LSpec Tryd.prog 8 #[] [] (Zm4  r) (ZlI  r) :=
 ZmZ Zx6 Tryd.func8 (by kernel_rfl) (by kernel_rfl) (fun r => by cases r <;> exact Zaq _ rfl) (Zp9  N) h

end Ev
end Go.Proofs.YtlbbiflodemagaaDoor
/- awake's parts. -/
namespace Go.Proofs.YtlbbiflodemagaaDoor
open Go.RowKit
namespace Ev
set_option linter.unusedVariables false
theorem ZtD (w : World) (ht : TabW w) : Calls Tryd.prog 8 #[] w (Ret (.bool true) w) :=
 Zvz (Zob 0 .r0 rfl) Zty rfl
end Ev
end Go.Proofs.YtlbbiflodemagaaDoor
/- Records, and the program's functions as plain ones. -/
namespace Go.Proofs.YtlbbiflodemagaaDoor
open Go.RowKit
namespace Ev
set_option linter.unusedVariables false
structure RA where
 a0 : Int
 a1 : Int
 a2 : Int
 a3 : Int
def RA.z : RA := ⟨0, 0, 0, 0⟩
structure R_is where
 a0 : Int
 a1 : List Int
def R_is.z : R_is := ⟨0, []⟩
structure R_si where
 a0 : List Int
 a1 : Int
def R_si.z : R_si := ⟨[], 0⟩
def Zes (L : List R_si) (k : List Int) : Bool := L.any fun x => ZaN k x.a0
def ZE (L : List R_si) (k : List Int) : Int := match L.find? (fun x => ZaN k x.a0) with | some x => x.a1 | none => 0
def Zc3 : List R_si → List Int → Int → List R_si
 | [], k, v => [⟨k, v⟩]
 | x :: L, k, v => if ZaN k x.a0 = true then ⟨k, v⟩ :: L else x :: Zc3 L k v
abbrev wds (M : List Int) : List (List Int) := Zao (32 : Int) M
abbrev wd (M : List Int) (k : Nat) : List Int := (wds M).getD k []
abbrev ai (v : List RA) (k : Nat) : RA := v.getD k RA.z
abbrev aj (v : List R_is) (k : Nat) : R_is := v.getD k R_is.z
abbrev aiA (v : List RA) (k : Nat) (M : List R_si) (j : List R_is) (o : Nat) : RA := ⟨(ai v k).a0, ZE M (aj j o).a1, (ai v k).a2, (ai v k).a3⟩
abbrev aiB (v : List RA) (k : Nat) (M : List R_si) (j : List R_is) (o : Nat) : RA := ⟨(ai v k).a0, (ai v k).a1, ZE M (aj j o).a1, (ai v k).a3⟩
abbrev aiC (v : List RA) (k : Nat) : RA := ⟨(ai v k).a0, (ai v k).a1, (ai v k).a2, (ai v k).a3⟩
inductive ZR where
 | r0 (w0 : Bool)

inductive ZX where
 | h1m0 (v2 : Nat)

def ZbZ (L0 : List Int) (N : Nat) (v2 : Nat) : Option (ZX ⊕ ZR) :=
 if (v2 : Int) < (L0.length : Int) then
  if (97 : Int) ≤ (L0.getD v2 0) then
   if (L0.getD v2 0) ≤ 122 then
    if (((v2 + 1) : Nat) : Int) ≤ 9223372036854775807 then
     some (.inl (.h1m0 ((v2 + 1)) : ZX))
    else
    none
   else
   some (.inr (.r0 (false) : ZR))
  else
  if (65 : Int) ≤ (L0.getD v2 0) then
   if (L0.getD v2 0) ≤ 90 then
    if (((v2 + 1) : Nat) : Int) ≤ 9223372036854775807 then
     some (.inl (.h1m0 ((v2 + 1)) : ZX))
    else
    none
   else
   if (L0.getD v2 0) = 95 then
    if (((v2 + 1) : Nat) : Int) ≤ 9223372036854775807 then
     some (.inl (.h1m0 ((v2 + 1)) : ZX))
    else
    none
   else
   some (.inr (.r0 (false) : ZR))
  else
  if (48 : Int) ≤ (L0.getD v2 0) then
   if (L0.getD v2 0) ≤ 57 then
    if (((v2 + 1) : Nat) : Int) ≤ 9223372036854775807 then
     some (.inl (.h1m0 ((v2 + 1)) : ZX))
    else
    none
   else
   some (.inr (.r0 (false) : ZR))
  else
  some (.inr (.r0 (false) : ZR))
 else
 some (.inr (.r0 (true) : ZR))

def ZcP (L0 : List Int) (N : Nat) : ZX → Option (ZX ⊕ ZR)
 | .h1m0 v2 => ZbZ L0 N v2

def ZdT (L0 : List Int) (N : Nat) : Option (ZX ⊕ ZR) :=
 if (((Za L0).size : Nat) : Int) < 1 then
  some (.inr (.r0 (false) : ZR))
 else
 if (32 : Int) < (((Za L0).size : Nat) : Int) then
  some (.inr (.r0 (false) : ZR))
 else
 if (ZL L0) = true then
  some (.inl (.h1m0 (0) : ZX))
 else
 none

def Zfm (L0 : List Int) (N : Nat) : Option ZR := goM (ZcP L0 N) N (ZdT L0 N)

inductive Zbx where
 | r0
 | r1

def Zb6 (L0 : List Int) (L1 : List Int) (a2 : Int) (L3 : List RA) (L4 : List Int) (L5 : List R_is) (L6 : List (List Int)) (L7 : List R_si) (N : Nat) : Option Zbx :=
 if (Zes L7 L0) = true then
  some (.r0 : Zbx)
 else
 ((Zfm (L0) N).bind fun r => match r with
 | .r0 y1_0 =>
  if ¬ (y1_0 = true) then
   some (.r0 : Zbx)
  else
  if L6.length ≤ 100000 then
   some (.r1 : Zbx)
  else
  none
 )

inductive instr_ByNameR where
 | r0 (w0 : Int) (w1 : Bool)

def ZcH (L0 : List Int) (N : Nat) : Option instr_ByNameR :=
 if (ZaN (bl [99, 111, 110, 115, 116]) L0) = true then
  some (.r0 ((1 : Int)) (true) : instr_ByNameR)
 else
 if (ZaN (bl [110, 105, 108]) L0) = true then
  some (.r0 ((2 : Int)) (true) : instr_ByNameR)
 else
 if (ZaN (bl [109, 111, 118, 101]) L0) = true then
  some (.r0 ((3 : Int)) (true) : instr_ByNameR)
 else
 if (ZaN (bl [97, 100, 100]) L0) = true then
  some (.r0 ((4 : Int)) (true) : instr_ByNameR)
 else
 if (ZaN (bl [115, 117, 98]) L0) = true then
  some (.r0 ((5 : Int)) (true) : instr_ByNameR)
 else
 if (ZaN (bl [108, 101, 115, 115]) L0) = true then
  some (.r0 ((6 : Int)) (true) : instr_ByNameR)
 else
 if (ZaN (bl [101, 113]) L0) = true then
  some (.r0 ((7 : Int)) (true) : instr_ByNameR)
 else
 if (ZaN (bl [106, 117, 109, 112]) L0) = true then
  some (.r0 ((8 : Int)) (true) : instr_ByNameR)
 else
 if (ZaN (bl [106, 117, 109, 112, 122]) L0) = true then
  some (.r0 ((9 : Int)) (true) : instr_ByNameR)
 else
 if (ZaN (bl [114, 111, 111, 116]) L0) = true then
  some (.r0 ((10 : Int)) (true) : instr_ByNameR)
 else
 if (ZaN (bl [110, 101, 119]) L0) = true then
  some (.r0 ((11 : Int)) (true) : instr_ByNameR)
 else
 if (ZaN (bl [102, 114, 101, 101]) L0) = true then
  some (.r0 ((12 : Int)) (true) : instr_ByNameR)
 else
 if (ZaN (bl [103, 101, 116]) L0) = true then
  some (.r0 ((13 : Int)) (true) : instr_ByNameR)
 else
 if (ZaN (bl [115, 101, 116]) L0) = true then
  some (.r0 ((14 : Int)) (true) : instr_ByNameR)
 else
 if (ZaN (bl [98, 101, 103, 105, 110]) L0) = true then
  some (.r0 ((15 : Int)) (true) : instr_ByNameR)
 else
 if (ZaN (bl [101, 108, 115, 101]) L0) = true then
  some (.r0 ((16 : Int)) (true) : instr_ByNameR)
 else
 if (ZaN (bl [101, 110, 100]) L0) = true then
  some (.r0 ((17 : Int)) (true) : instr_ByNameR)
 else
 if (ZaN (bl [114, 101, 116, 114, 121]) L0) = true then
  some (.r0 ((18 : Int)) (true) : instr_ByNameR)
 else
 if (ZaN (bl [101, 109, 105, 116]) L0) = true then
  some (.r0 ((19 : Int)) (true) : instr_ByNameR)
 else
 if (ZaN (bl [104, 97, 108, 116]) L0) = true then
  some (.r0 ((20 : Int)) (true) : instr_ByNameR)
 else
 some (.r0 ((0 : Int)) (false) : instr_ByNameR)

inductive Zx where
 | r0
 | r1
 | r2
 | r3
 | r4
 | r5
 | r6
 | r7
 | r8
 | r9

def Zax (a0 : Int) (N : Nat) : Option Zx :=
 if a0 = 1 then
  some (.r0 : Zx)
 else
 if a0 = 8 then
  some (.r1 : Zx)
 else
 if a0 = 9 then
  some (.r2 : Zx)
 else
 if a0 = 11 then
  some (.r3 : Zx)
 else
 if a0 = 13 then
  some (.r4 : Zx)
 else
 if a0 = 14 then
  some (.r5 : Zx)
 else
 if a0 < 0 then
  some (.r6 : Zx)
 else
 if (21 : Int) ≤ a0 then
  some (.r6 : Zx)
 else
 if a0 = 0 then
  some (.r6 : Zx)
 else
 if a0 = 2 then
  some (.r7 : Zx)
 else
 if a0 = 3 then
  some (.r8 : Zx)
 else
 if a0 = 4 then
  some (.r9 : Zx)
 else
 if a0 = 5 then
  some (.r9 : Zx)
 else
 if a0 = 6 then
  some (.r9 : Zx)
 else
 if a0 = 7 then
  some (.r9 : Zx)
 else
 if a0 = 10 then
  some (.r7 : Zx)
 else
 if a0 = 12 then
  some (.r7 : Zx)
 else
 if a0 = 15 then
  some (.r6 : Zx)
 else
 if a0 = 16 then
  some (.r6 : Zx)
 else
 if a0 = 17 then
  some (.r6 : Zx)
 else
 if a0 = 18 then
  some (.r6 : Zx)
 else
 if a0 = 19 then
  some (.r7 : Zx)
 else
 some (.r6 : Zx)

inductive Zar where
 | r0
 | r1

def ZC (L0 : List Int) (L1 : List Int) (a2 : Int) (L3 : List RA) (L4 : List Int) (L5 : List R_is) (L6 : List (List Int)) (L7 : List R_si) (N : Nat) : Option Zar :=
 if (((Za L0).size : Nat) : Int) = 2 then
  if (bAt L0 0) = 114 then
   if (48 : Int) ≤ (bAt L0 1) then
    if (bAt L0 1) < 56 then
     some (.r0 : Zar)
    else
    some (.r1 : Zar)
   else
   some (.r1 : Zar)
  else
  some (.r1 : Zar)
 else
 some (.r1 : Zar)

inductive ZaY where
 | r0
 | r1

def Zan (L0 : List Int) (L1 : List Int) (a2 : Int) (L3 : List RA) (L4 : List Int) (L5 : List R_is) (L6 : List (List Int)) (L7 : List R_si) (N : Nat) : Option ZaY :=
 if (ZL L0) = true then
  if L0.length ≤ 1000000 then
   if (ZcF L0) = true then
    some (.r0 : ZaY)
   else
   some (.r1 : ZaY)
  else
  none
 else
 none

inductive Zaz where
 | r0
 | r1

def Za9 (L0 : List Int) (L1 : List Int) (a2 : Int) (L3 : List RA) (L4 : List Int) (L5 : List R_is) (L6 : List (List Int)) (L7 : List R_si) (N : Nat) : Option Zaz :=
 if (1 : Int) < (((Za L0).size : Nat) : Int) then
  if (bAt L0 0) = 64 then
   ((Zfm ((L0.drop 1)) N).bind fun r => match r with
   | .r0 y2_0 =>
    if y2_0 = true then
     if L5.length ≤ 100000 then
      some (.r0 : Zaz)
     else
     none
    else
    some (.r1 : Zaz)
   )
  else
  some (.r1 : Zaz)
 else
 some (.r1 : Zaz)

inductive Zg where
 | r0
 | r1 (w5 : List RA)
 | r2 (w4 : List RA) (w6 : List R_is)

def Zaw (L0 : List Int) (L1 : List Int) (a2 : Int) (L3 : List RA) (L4 : List Int) (L5 : List R_is) (L6 : List (List Int)) (L7 : List R_si) (N : Nat) : Option Zg :=
 if (ZL L0) = true then
  if L0.length ≤ 1000000 then
   if 0 < (wds L0).length then
    ((ZcH ((wd L0 0)) N).bind fun r => match r with
    | .r0 y3_0 y3_1 =>
     ((Zax (y3_0) N).bind fun r => match r with
     | .r0 =>
      if ¬ (y3_1 = true) then
       some (.r0 : Zg)
      else
      if ¬ ((((wds L0).length : Nat) : Int) = 3) then
       some (.r0 : Zg)
      else
      if (512 : Int) ≤ (L3.length : Int) then
       some (.r0 : Zg)
      else
      ((ZC ((wd L0 1)) (L1) (a2) (L3) (L4) (L5) (L6) (L7) N).bind fun r => match r with
      | .r0 =>
       ((Zan ((wd L0 2)) (L1) (a2) (L3) (L4) (L5) (L6) (L7) N).bind fun r => match r with
       | .r0 =>
        if L4.length ≤ 100000 then
         some (.r1 ((L3 ++ ([(⟨y3_0, ((bAt (wd L0 1) 1) - (48 : Int)), (ZP (wd L0 2)), (0 : Int)⟩ : RA)] : List RA))) : Zg)
        else
        none
       | .r1 =>
        some (.r0 : Zg)
       )
      | .r1 =>
       some (.r0 : Zg)
      )
     | .r1 =>
      if ¬ (y3_1 = true) then
       some (.r0 : Zg)
      else
      if ¬ ((((wds L0).length : Nat) : Int) = 2) then
       some (.r0 : Zg)
      else
      if (512 : Int) ≤ (L3.length : Int) then
       some (.r0 : Zg)
      else
      ((Za9 ((wd L0 1)) (L1) (a2) (L3) (L4) (L5) (L6) (L7) N).bind fun r => match r with
      | .r0 =>
       if L4.length ≤ 100000 then
        some (.r2 ((L3 ++ ([(⟨y3_0, (0 : Int), (0 : Int), (0 : Int)⟩ : RA)] : List RA))) ((L5 ++ ([(⟨(L3.length : Int), ((wd L0 1).drop 1)⟩ : R_is)] : List R_is))) : Zg)
       else
       none
      | .r1 =>
       some (.r0 : Zg)
      )
     | .r2 =>
      if ¬ (y3_1 = true) then
       some (.r0 : Zg)
      else
      if ¬ ((((wds L0).length : Nat) : Int) = 3) then
       some (.r0 : Zg)
      else
      if (512 : Int) ≤ (L3.length : Int) then
       some (.r0 : Zg)
      else
      ((ZC ((wd L0 1)) (L1) (a2) (L3) (L4) (L5) (L6) (L7) N).bind fun r => match r with
      | .r0 =>
       ((Za9 ((wd L0 2)) (L1) (a2) (L3) (L4) (L5) (L6) (L7) N).bind fun r => match r with
       | .r0 =>
        if L4.length ≤ 100000 then
         some (.r2 ((L3 ++ ([(⟨y3_0, ((bAt (wd L0 1) 1) - (48 : Int)), (0 : Int), (0 : Int)⟩ : RA)] : List RA))) ((L5 ++ ([(⟨(L3.length : Int), ((wd L0 2).drop 1)⟩ : R_is)] : List R_is))) : Zg)
        else
        none
       | .r1 =>
        some (.r0 : Zg)
       )
      | .r1 =>
       some (.r0 : Zg)
      )
     | .r3 =>
      if ¬ (y3_1 = true) then
       some (.r0 : Zg)
      else
      if ¬ ((((wds L0).length : Nat) : Int) = 4) then
       some (.r0 : Zg)
      else
      if (512 : Int) ≤ (L3.length : Int) then
       some (.r0 : Zg)
      else
      ((ZC ((wd L0 1)) (L1) (a2) (L3) (L4) (L5) (L6) (L7) N).bind fun r => match r with
      | .r0 =>
       ((Zan ((wd L0 2)) (L1) (a2) (L3) (L4) (L5) (L6) (L7) N).bind fun r => match r with
       | .r0 =>
        ((Zan ((wd L0 3)) (L1) (a2) (L3) (L4) (L5) (L6) (L7) N).bind fun r => match r with
        | .r0 =>
         if L4.length ≤ 100000 then
          some (.r1 ((L3 ++ ([(⟨y3_0, ((bAt (wd L0 1) 1) - (48 : Int)), (ZP (wd L0 2)), (ZP (wd L0 3))⟩ : RA)] : List RA))) : Zg)
         else
         none
        | .r1 =>
         some (.r0 : Zg)
        )
       | .r1 =>
        some (.r0 : Zg)
       )
      | .r1 =>
       some (.r0 : Zg)
      )
     | .r4 =>
      if ¬ (y3_1 = true) then
       some (.r0 : Zg)
      else
      if ¬ ((((wds L0).length : Nat) : Int) = 4) then
       some (.r0 : Zg)
      else
      if (512 : Int) ≤ (L3.length : Int) then
       some (.r0 : Zg)
      else
      ((ZC ((wd L0 1)) (L1) (a2) (L3) (L4) (L5) (L6) (L7) N).bind fun r => match r with
      | .r0 =>
       ((ZC ((wd L0 2)) (L1) (a2) (L3) (L4) (L5) (L6) (L7) N).bind fun r => match r with
       | .r0 =>
        ((Zan ((wd L0 3)) (L1) (a2) (L3) (L4) (L5) (L6) (L7) N).bind fun r => match r with
        | .r0 =>
         if L4.length ≤ 100000 then
          some (.r1 ((L3 ++ ([(⟨y3_0, ((bAt (wd L0 1) 1) - (48 : Int)), ((bAt (wd L0 2) 1) - (48 : Int)), (ZP (wd L0 3))⟩ : RA)] : List RA))) : Zg)
         else
         none
        | .r1 =>
         some (.r0 : Zg)
        )
       | .r1 =>
        some (.r0 : Zg)
       )
      | .r1 =>
       some (.r0 : Zg)
      )
     | .r5 =>
      if ¬ (y3_1 = true) then
       some (.r0 : Zg)
      else
      if ¬ ((((wds L0).length : Nat) : Int) = 4) then
       some (.r0 : Zg)
      else
      if (512 : Int) ≤ (L3.length : Int) then
       some (.r0 : Zg)
      else
      ((ZC ((wd L0 1)) (L1) (a2) (L3) (L4) (L5) (L6) (L7) N).bind fun r => match r with
      | .r0 =>
       ((Zan ((wd L0 2)) (L1) (a2) (L3) (L4) (L5) (L6) (L7) N).bind fun r => match r with
       | .r0 =>
        ((ZC ((wd L0 3)) (L1) (a2) (L3) (L4) (L5) (L6) (L7) N).bind fun r => match r with
        | .r0 =>
         if L4.length ≤ 100000 then
          some (.r1 ((L3 ++ ([(⟨y3_0, ((bAt (wd L0 1) 1) - (48 : Int)), (ZP (wd L0 2)), ((bAt (wd L0 3) 1) - (48 : Int))⟩ : RA)] : List RA))) : Zg)
         else
         none
        | .r1 =>
         some (.r0 : Zg)
        )
       | .r1 =>
        some (.r0 : Zg)
       )
      | .r1 =>
       some (.r0 : Zg)
      )
     | .r6 =>
      if ¬ (y3_1 = true) then
       some (.r0 : Zg)
      else
      if ¬ ((((wds L0).length : Nat) : Int) = 1) then
       some (.r0 : Zg)
      else
      if (512 : Int) ≤ (L3.length : Int) then
       some (.r0 : Zg)
      else
      if L4.length ≤ 100000 then
       some (.r1 ((L3 ++ ([(⟨y3_0, (0 : Int), (0 : Int), (0 : Int)⟩ : RA)] : List RA))) : Zg)
      else
      none
     | .r7 =>
      if ¬ (y3_1 = true) then
       some (.r0 : Zg)
      else
      if ¬ ((((wds L0).length : Nat) : Int) = 2) then
       some (.r0 : Zg)
      else
      if (512 : Int) ≤ (L3.length : Int) then
       some (.r0 : Zg)
      else
      ((ZC ((wd L0 1)) (L1) (a2) (L3) (L4) (L5) (L6) (L7) N).bind fun r => match r with
      | .r0 =>
       if L4.length ≤ 100000 then
        some (.r1 ((L3 ++ ([(⟨y3_0, ((bAt (wd L0 1) 1) - (48 : Int)), (0 : Int), (0 : Int)⟩ : RA)] : List RA))) : Zg)
       else
       none
      | .r1 =>
       some (.r0 : Zg)
      )
     | .r8 =>
      if ¬ (y3_1 = true) then
       some (.r0 : Zg)
      else
      if ¬ ((((wds L0).length : Nat) : Int) = 3) then
       some (.r0 : Zg)
      else
      if (512 : Int) ≤ (L3.length : Int) then
       some (.r0 : Zg)
      else
      ((ZC ((wd L0 1)) (L1) (a2) (L3) (L4) (L5) (L6) (L7) N).bind fun r => match r with
      | .r0 =>
       ((ZC ((wd L0 2)) (L1) (a2) (L3) (L4) (L5) (L6) (L7) N).bind fun r => match r with
       | .r0 =>
        if L4.length ≤ 100000 then
         some (.r1 ((L3 ++ ([(⟨y3_0, ((bAt (wd L0 1) 1) - (48 : Int)), ((bAt (wd L0 2) 1) - (48 : Int)), (0 : Int)⟩ : RA)] : List RA))) : Zg)
        else
        none
       | .r1 =>
        some (.r0 : Zg)
       )
      | .r1 =>
       some (.r0 : Zg)
      )
     | .r9 =>
      if ¬ (y3_1 = true) then
       some (.r0 : Zg)
      else
      if ¬ ((((wds L0).length : Nat) : Int) = 4) then
       some (.r0 : Zg)
      else
      if (512 : Int) ≤ (L3.length : Int) then
       some (.r0 : Zg)
      else
      ((ZC ((wd L0 1)) (L1) (a2) (L3) (L4) (L5) (L6) (L7) N).bind fun r => match r with
      | .r0 =>
       ((ZC ((wd L0 2)) (L1) (a2) (L3) (L4) (L5) (L6) (L7) N).bind fun r => match r with
       | .r0 =>
        ((ZC ((wd L0 3)) (L1) (a2) (L3) (L4) (L5) (L6) (L7) N).bind fun r => match r with
        | .r0 =>
         if L4.length ≤ 100000 then
          some (.r1 ((L3 ++ ([(⟨y3_0, ((bAt (wd L0 1) 1) - (48 : Int)), ((bAt (wd L0 2) 1) - (48 : Int)), ((bAt (wd L0 3) 1) - (48 : Int))⟩ : RA)] : List RA))) : Zg)
         else
         none
        | .r1 =>
         some (.r0 : Zg)
        )
       | .r1 =>
        some (.r0 : Zg)
       )
      | .r1 =>
       some (.r0 : Zg)
      )
     )
    )
   else
   none
  else
  none
 else
 none

inductive ZaO where
 | r0 (w0 : Int)

abbrev ckX : Option ZaO := some (.r0 (100 : Int))
abbrev ckO : Option ZaO := some (.r0 (0 : Int))

def Zas (a0 : Int) (a1 : Int) (a2 : Int) (a3 : Int) (N : Nat) : Option ZaO :=
 if a0 < 0 then
  ckX
 else
 if (21 : Int) ≤ a0 then
  ckX
 else
 if a0 = 0 then
  ckX
 else
 if a0 = 1 then
  if (0 : Int) ≤ a1 then
   if a1 ≤ 7 then
    if (-1099511627776 : Int) ≤ a2 then
     if a2 ≤ 1099511627776 then
      if (0 : Int) ≤ a3 then
       if a3 ≤ 0 then
        ckO
       else
       ckX
      else
      ckX
     else
     ckX
    else
    ckX
   else
   ckX
  else
  ckX
 else
 if a0 = 2 then
  if (0 : Int) ≤ a1 then
   if a1 ≤ 7 then
    if (0 : Int) ≤ a2 then
     if a2 ≤ 0 then
      if (0 : Int) ≤ a3 then
       if a3 ≤ 0 then
        ckO
       else
       ckX
      else
      ckX
     else
     ckX
    else
    ckX
   else
   ckX
  else
  ckX
 else
 if a0 = 3 then
  if (0 : Int) ≤ a1 then
   if a1 ≤ 7 then
    if (0 : Int) ≤ a2 then
     if a2 ≤ 7 then
      if (0 : Int) ≤ a3 then
       if a3 ≤ 0 then
        ckO
       else
       ckX
      else
      ckX
     else
     ckX
    else
    ckX
   else
   ckX
  else
  ckX
 else
 if a0 = 4 then
  if (0 : Int) ≤ a1 then
   if a1 ≤ 7 then
    if (0 : Int) ≤ a2 then
     if a2 ≤ 7 then
      if (0 : Int) ≤ a3 then
       if a3 ≤ 7 then
        ckO
       else
       ckX
      else
      ckX
     else
     ckX
    else
    ckX
   else
   ckX
  else
  ckX
 else
 if a0 = 5 then
  if (0 : Int) ≤ a1 then
   if a1 ≤ 7 then
    if (0 : Int) ≤ a2 then
     if a2 ≤ 7 then
      if (0 : Int) ≤ a3 then
       if a3 ≤ 7 then
        ckO
       else
       ckX
      else
      ckX
     else
     ckX
    else
    ckX
   else
   ckX
  else
  ckX
 else
 if a0 = 6 then
  if (0 : Int) ≤ a1 then
   if a1 ≤ 7 then
    if (0 : Int) ≤ a2 then
     if a2 ≤ 7 then
      if (0 : Int) ≤ a3 then
       if a3 ≤ 7 then
        ckO
       else
       ckX
      else
      ckX
     else
     ckX
    else
    ckX
   else
   ckX
  else
  ckX
 else
 if a0 = 7 then
  if (0 : Int) ≤ a1 then
   if a1 ≤ 7 then
    if (0 : Int) ≤ a2 then
     if a2 ≤ 7 then
      if (0 : Int) ≤ a3 then
       if a3 ≤ 7 then
        ckO
       else
       ckX
      else
      ckX
     else
     ckX
    else
    ckX
   else
   ckX
  else
  ckX
 else
 if a0 = 8 then
  if (0 : Int) ≤ a1 then
   if a1 ≤ 512 then
    if (0 : Int) ≤ a2 then
     if a2 ≤ 0 then
      if (0 : Int) ≤ a3 then
       if a3 ≤ 0 then
        ckO
       else
       ckX
      else
      ckX
     else
     ckX
    else
    ckX
   else
   ckX
  else
  ckX
 else
 if a0 = 9 then
  if (0 : Int) ≤ a1 then
   if a1 ≤ 7 then
    if (0 : Int) ≤ a2 then
     if a2 ≤ 512 then
      if (0 : Int) ≤ a3 then
       if a3 ≤ 0 then
        ckO
       else
       ckX
      else
      ckX
     else
     ckX
    else
    ckX
   else
   ckX
  else
  ckX
 else
 if a0 = 10 then
  if (0 : Int) ≤ a1 then
   if a1 ≤ 7 then
    if (0 : Int) ≤ a2 then
     if a2 ≤ 0 then
      if (0 : Int) ≤ a3 then
       if a3 ≤ 0 then
        ckO
       else
       ckX
      else
      ckX
     else
     ckX
    else
    ckX
   else
   ckX
  else
  ckX
 else
 if a0 = 11 then
  if (0 : Int) ≤ a1 then
   if a1 ≤ 7 then
    if (1 : Int) ≤ a2 then
     if a2 ≤ 16 then
      if (0 : Int) ≤ a3 then
       if a3 ≤ (IntKind.i64.wrap ((IntKind.i64.wrap ((1 : Int) * (2 ^ (a2).toNat : Int))) - (1 : Int))) then
        ckO
       else
       ckX
      else
      ckX
     else
     ckX
    else
    ckX
   else
   ckX
  else
  ckX
 else
 if a0 = 12 then
  if (0 : Int) ≤ a1 then
   if a1 ≤ 7 then
    if (0 : Int) ≤ a2 then
     if a2 ≤ 0 then
      if (0 : Int) ≤ a3 then
       if a3 ≤ 0 then
        ckO
       else
       ckX
      else
      ckX
     else
     ckX
    else
    ckX
   else
   ckX
  else
  ckX
 else
 if a0 = 13 then
  if (0 : Int) ≤ a1 then
   if a1 ≤ 7 then
    if (0 : Int) ≤ a2 then
     if a2 ≤ 7 then
      if (0 : Int) ≤ a3 then
       if a3 ≤ 15 then
        ckO
       else
       ckX
      else
      ckX
     else
     ckX
    else
    ckX
   else
   ckX
  else
  ckX
 else
 if a0 = 14 then
  if (0 : Int) ≤ a1 then
   if a1 ≤ 7 then
    if (0 : Int) ≤ a2 then
     if a2 ≤ 15 then
      if (0 : Int) ≤ a3 then
       if a3 ≤ 7 then
        ckO
       else
       ckX
      else
      ckX
     else
     ckX
    else
    ckX
   else
   ckX
  else
  ckX
 else
 if a0 = 15 then
  if (0 : Int) ≤ a1 then
   if a1 ≤ 0 then
    if (0 : Int) ≤ a2 then
     if a2 ≤ 0 then
      if (0 : Int) ≤ a3 then
       if a3 ≤ 0 then
        ckO
       else
       ckX
      else
      ckX
     else
     ckX
    else
    ckX
   else
   ckX
  else
  ckX
 else
 if a0 = 16 then
  if (0 : Int) ≤ a1 then
   if a1 ≤ 0 then
    if (0 : Int) ≤ a2 then
     if a2 ≤ 0 then
      if (0 : Int) ≤ a3 then
       if a3 ≤ 0 then
        ckO
       else
       ckX
      else
      ckX
     else
     ckX
    else
    ckX
   else
   ckX
  else
  ckX
 else
 if a0 = 17 then
  if (0 : Int) ≤ a1 then
   if a1 ≤ 0 then
    if (0 : Int) ≤ a2 then
     if a2 ≤ 0 then
      if (0 : Int) ≤ a3 then
       if a3 ≤ 0 then
        ckO
       else
       ckX
      else
      ckX
     else
     ckX
    else
    ckX
   else
   ckX
  else
  ckX
 else
 if a0 = 18 then
  if (0 : Int) ≤ a1 then
   if a1 ≤ 0 then
    if (0 : Int) ≤ a2 then
     if a2 ≤ 0 then
      if (0 : Int) ≤ a3 then
       if a3 ≤ 0 then
        ckO
       else
       ckX
      else
      ckX
     else
     ckX
    else
    ckX
   else
   ckX
  else
  ckX
 else
 if a0 = 19 then
  if (0 : Int) ≤ a1 then
   if a1 ≤ 7 then
    if (0 : Int) ≤ a2 then
     if a2 ≤ 0 then
      if (0 : Int) ≤ a3 then
       if a3 ≤ 0 then
        ckO
       else
       ckX
      else
      ckX
     else
     ckX
    else
    ckX
   else
   ckX
  else
  ckX
 else
 if (0 : Int) ≤ a1 then
  if a1 ≤ 0 then
   if (0 : Int) ≤ a2 then
    if a2 ≤ 0 then
     if (0 : Int) ≤ a3 then
      if a3 ≤ 0 then
       ckO
      else
      ckX
     else
     ckX
    else
    ckX
   else
   ckX
  else
  ckX
 else
 ckX

inductive Z0 where
 | r0 (w0 : Int)
 | r1 (w6 : Int)
 | r2 (w0 : List RA) (w6 : Int) (w7 : Nat) (w8 : Nat)

inductive asm_reader_aimX where
 | h1m0 (v6 : Nat) (v8 : Int)
 | h1m1 (v0 : List RA) (v6 : Nat) (v8 : Int) (v9 : Nat) (v10 : Nat)

def Zbp (L0 : List Int) (a1 : Int) (L2 : List RA) (L3 : List Int) (L4 : List R_is) (L5 : List (List Int)) (L6 : List R_si) (N : Nat) (v6 : Nat) (v8 : Int) : Option (asm_reader_aimX ⊕ Z0) :=
 if (v6 : Int) < (L2.length : Int) then
  if v6 < L3.length then
   if (0 : Int) < (L4.length : Int) then
    if (aj L4 0).a0 = (v6 : Int) then
     if (Zes L6 (aj L4 0).a1) = true then
      if (ai L2 v6).a0 = 8 then
       ((Zas ((ai L2 v6).a0) ((ZE L6 (aj L4 0).a1)) ((ai L2 v6).a2) ((ai L2 v6).a3) N).bind fun r => match r with
       | .r0 y6_0 =>
        if ¬ (y6_0 = 0) then
         some (.inr (.r0 ((L3.getD v6 0)) : Z0))
        else
        if (((v6 + 1) : Nat) : Int) ≤ 9223372036854775807 then
         some (.inl (.h1m1 ((L2.set v6 (aiA L2 v6 L6 L4 0))) ((v6 + 1)) ((L3.getD v6 0)) (1) ((L4.length - 1)) : asm_reader_aimX))
        else
        none
       )
      else
      if (ai L2 v6).a0 = 9 then
       ((Zas ((ai L2 v6).a0) ((ai L2 v6).a1) ((ZE L6 (aj L4 0).a1)) ((ai L2 v6).a3) N).bind fun r => match r with
       | .r0 y7_0 =>
        if ¬ (y7_0 = 0) then
         some (.inr (.r0 ((L3.getD v6 0)) : Z0))
        else
        if (((v6 + 1) : Nat) : Int) ≤ 9223372036854775807 then
         some (.inl (.h1m1 ((L2.set v6 (aiB L2 v6 L6 L4 0))) ((v6 + 1)) ((L3.getD v6 0)) (1) ((L4.length - 1)) : asm_reader_aimX))
        else
        none
       )
      else
      ((Zas ((ai L2 v6).a0) ((ai L2 v6).a1) ((ai L2 v6).a2) ((ai L2 v6).a3) N).bind fun r => match r with
      | .r0 y7_0 =>
       if ¬ (y7_0 = 0) then
        some (.inr (.r0 ((L3.getD v6 0)) : Z0))
       else
       if (((v6 + 1) : Nat) : Int) ≤ 9223372036854775807 then
        some (.inl (.h1m1 ((L2.set v6 (aiC L2 v6))) ((v6 + 1)) ((L3.getD v6 0)) (1) ((L4.length - 1)) : asm_reader_aimX))
       else
       none
      )
     else
     some (.inr (.r0 ((L3.getD v6 0)) : Z0))
    else
    ((Zas ((ai L2 v6).a0) ((ai L2 v6).a1) ((ai L2 v6).a2) ((ai L2 v6).a3) N).bind fun r => match r with
    | .r0 y4_0 =>
     if ¬ (y4_0 = 0) then
      some (.inr (.r0 ((L3.getD v6 0)) : Z0))
     else
     if (((v6 + 1) : Nat) : Int) ≤ 9223372036854775807 then
      some (.inl (.h1m0 ((v6 + 1)) ((L3.getD v6 0)) : asm_reader_aimX))
     else
     none
    )
   else
   ((Zas ((ai L2 v6).a0) ((ai L2 v6).a1) ((ai L2 v6).a2) ((ai L2 v6).a3) N).bind fun r => match r with
   | .r0 y3_0 =>
    if ¬ (y3_0 = 0) then
     some (.inr (.r0 ((L3.getD v6 0)) : Z0))
    else
    if (((v6 + 1) : Nat) : Int) ≤ 9223372036854775807 then
     some (.inl (.h1m0 ((v6 + 1)) ((L3.getD v6 0)) : asm_reader_aimX))
    else
    none
   )
  else
  none
 else
 some (.inr (.r1 (v8) : Z0))

def Zbq (L0 : List Int) (a1 : Int) (L2 : List RA) (L3 : List Int) (L4 : List R_is) (L5 : List (List Int)) (L6 : List R_si) (N : Nat) (v0 : List RA) (v6 : Nat) (v8 : Int) (v9 : Nat) (v10 : Nat) : Option (asm_reader_aimX ⊕ Z0) :=
 if (v6 : Int) < (L2.length : Int) then
  if v6 < v0.length then
   if v6 < L3.length then
    if (0 : Int) < (v10 : Int) then
     if v9 < L4.length then
      if (aj L4 v9).a0 = (v6 : Int) then
       if (Zes L6 (aj L4 v9).a1) = true then
        if (ai v0 v6).a0 = 8 then
         ((Zas ((ai v0 v6).a0) ((ZE L6 (aj L4 v9).a1)) ((ai v0 v6).a2) ((ai v0 v6).a3) N).bind fun r => match r with
         | .r0 y8_0 =>
          if ¬ (y8_0 = 0) then
           some (.inr (.r0 ((L3.getD v6 0)) : Z0))
          else
          if (((v6 + 1) : Nat) : Int) ≤ 9223372036854775807 then
           some (.inl (.h1m1 ((v0.set v6 (aiA v0 v6 L6 L4 v9))) ((v6 + 1)) ((L3.getD v6 0)) ((v9 + 1)) ((v10 - 1)) : asm_reader_aimX))
          else
          none
         )
        else
        if (ai v0 v6).a0 = 9 then
         ((Zas ((ai v0 v6).a0) ((ai v0 v6).a1) ((ZE L6 (aj L4 v9).a1)) ((ai v0 v6).a3) N).bind fun r => match r with
         | .r0 y9_0 =>
          if ¬ (y9_0 = 0) then
           some (.inr (.r0 ((L3.getD v6 0)) : Z0))
          else
          if (((v6 + 1) : Nat) : Int) ≤ 9223372036854775807 then
           some (.inl (.h1m1 ((v0.set v6 (aiB v0 v6 L6 L4 v9))) ((v6 + 1)) ((L3.getD v6 0)) ((v9 + 1)) ((v10 - 1)) : asm_reader_aimX))
          else
          none
         )
        else
        ((Zas ((ai v0 v6).a0) ((ai v0 v6).a1) ((ai v0 v6).a2) ((ai v0 v6).a3) N).bind fun r => match r with
        | .r0 y9_0 =>
         if ¬ (y9_0 = 0) then
          some (.inr (.r0 ((L3.getD v6 0)) : Z0))
         else
         if (((v6 + 1) : Nat) : Int) ≤ 9223372036854775807 then
          some (.inl (.h1m1 ((v0.set v6 (aiC v0 v6))) ((v6 + 1)) ((L3.getD v6 0)) ((v9 + 1)) ((v10 - 1)) : asm_reader_aimX))
         else
         none
        )
       else
       some (.inr (.r0 ((L3.getD v6 0)) : Z0))
      else
      ((Zas ((ai v0 v6).a0) ((ai v0 v6).a1) ((ai v0 v6).a2) ((ai v0 v6).a3) N).bind fun r => match r with
      | .r0 y6_0 =>
       if ¬ (y6_0 = 0) then
        some (.inr (.r0 ((L3.getD v6 0)) : Z0))
       else
       if (((v6 + 1) : Nat) : Int) ≤ 9223372036854775807 then
        some (.inl (.h1m1 (v0) ((v6 + 1)) ((L3.getD v6 0)) (v9) (v10) : asm_reader_aimX))
       else
       none
      )
     else
     none
    else
    ((Zas ((ai v0 v6).a0) ((ai v0 v6).a1) ((ai v0 v6).a2) ((ai v0 v6).a3) N).bind fun r => match r with
    | .r0 y4_0 =>
     if ¬ (y4_0 = 0) then
      some (.inr (.r0 ((L3.getD v6 0)) : Z0))
     else
     if (((v6 + 1) : Nat) : Int) ≤ 9223372036854775807 then
      some (.inl (.h1m1 (v0) ((v6 + 1)) ((L3.getD v6 0)) (v9) (v10) : asm_reader_aimX))
     else
     none
    )
   else
   none
  else
  none
 else
 some (.inr (.r2 (v0) (v8) (v9) (v10) : Z0))

def Zbd (L0 : List Int) (a1 : Int) (L2 : List RA) (L3 : List Int) (L4 : List R_is) (L5 : List (List Int)) (L6 : List R_si) (N : Nat) : asm_reader_aimX → Option (asm_reader_aimX ⊕ Z0)
 | .h1m0 v6 v8 => Zbp L0 a1 L2 L3 L4 L5 L6 N v6 v8
 | .h1m1 v0 v6 v8 v9 v10 => Zbq L0 a1 L2 L3 L4 L5 L6 N v0 v6 v8 v9 v10

def Zfb (L0 : List Int) (a1 : Int) (L2 : List RA) (L3 : List Int) (L4 : List R_is) (L5 : List (List Int)) (L6 : List R_si) (N : Nat) : Option (asm_reader_aimX ⊕ Z0) :=
 some (.inl (.h1m0 (0) (a1) : asm_reader_aimX))

def Zc8 (L0 : List Int) (a1 : Int) (L2 : List RA) (L3 : List Int) (L4 : List R_is) (L5 : List (List Int)) (L6 : List R_si) (N : Nat) : Option Z0 := goM (Zbd L0 a1 L2 L3 L4 L5 L6 N) N (Zfb L0 a1 L2 L3 L4 L5 L6 N)

inductive ZD where
 | r0 (w0 : Int)
 | r1 (w0 : List R_si) (w1 : List Int) (w2 : Int) (w3 : List RA) (w4 : List Int) (w5 : List R_is) (w6 : List (List Int))
 | r2 (w0 : List R_si) (w1 : List Int) (w2 : Int) (w3 : List RA) (w4 : List Int) (w5 : List R_is) (w6 : Nat) (w7 : Nat) (w8 : List (List Int))

inductive ZA where
 | h1m0 (v0 : List R_si) (v1 : List Int) (v2 : Int) (v3 : List RA) (v4 : List Int) (v5 : List R_is) (v6 : List (List Int))

def ZaA (L0 : List Int) (a1 : Int) (L2 : List R_si) (N : Nat) (v0 : List R_si) (v1 : List Int) (v2 : Int) (v3 : List RA) (v4 : List Int) (v5 : List R_is) (v6 : List (List Int)) : Option (ZA ⊕ ZD) :=
 if ¬ ((ZaN v1 ([] : List Int)) = true) then
  if (ZL v1) = true then
   if v1.length ≤ 1000000 then
    if (Zbc (10 : Int) v1) = true then
     if (ZaN (Z5 (10 : Int) v1) ([] : List Int)) = true then
      some (.inl (.h1m0 (v0) ((ZO (10 : Int) v1)) ((IntKind.i64.wrap (v2 + (1 : Int)))) (v3) (v4) (v5) (v6) : ZA))
     else
     if 0 < (Z5 (10 : Int) v1).length then
      if (bAt (Z5 (10 : Int) v1) 0) = 35 then
       some (.inl (.h1m0 (v0) ((ZO (10 : Int) v1)) ((IntKind.i64.wrap (v2 + (1 : Int)))) (v3) (v4) (v5) (v6) : ZA))
      else
      if (bAt (Z5 (10 : Int) v1) 0) = 58 then
       ((Zb6 (((Z5 (10 : Int) v1).drop 1)) ((ZO (10 : Int) v1)) ((IntKind.i64.wrap (v2 + (1 : Int)))) (v3) (v4) (v5) (v6) (v0) N).bind fun r => match r with
       | .r0 =>
        some (.inr (.r0 ((IntKind.i64.wrap (v2 + (1 : Int)))) : ZD))
       | .r1 =>
        some (.inl (.h1m0 ((Zc3 v0 ((Z5 (10 : Int) v1).drop 1) (v3.length : Int))) ((ZO (10 : Int) v1)) ((IntKind.i64.wrap (v2 + (1 : Int)))) (v3) (v4) (v5) ((v6 ++ ([((Z5 (10 : Int) v1).drop 1)] : List (List Int)))) : ZA))
       )
      else
      ((Zaw ((Z5 (10 : Int) v1)) ((ZO (10 : Int) v1)) ((IntKind.i64.wrap (v2 + (1 : Int)))) (v3) (v4) (v5) (v6) (v0) N).bind fun r => match r with
      | .r0 =>
       some (.inr (.r0 ((IntKind.i64.wrap (v2 + (1 : Int)))) : ZD))
      | .r1 y8_0 =>
       if 0 < y8_0.length then
        some (.inl (.h1m0 (v0) ((ZO (10 : Int) v1)) ((IntKind.i64.wrap (v2 + (1 : Int)))) (y8_0) ((v4 ++ ([(IntKind.i64.wrap (v2 + (1 : Int)))] : List Int))) (v5) (v6) : ZA))
       else
       none
      | .r2 y8_0 y8_1 =>
       if 0 < y8_0.length then
        if 0 < y8_1.length then
         some (.inl (.h1m0 (v0) ((ZO (10 : Int) v1)) ((IntKind.i64.wrap (v2 + (1 : Int)))) (y8_0) ((v4 ++ ([(IntKind.i64.wrap (v2 + (1 : Int)))] : List Int))) (y8_1) (v6) : ZA))
        else
        none
       else
       none
      )
     else
     none
    else
    some (.inr (.r0 ((IntKind.i64.wrap (v2 + (1 : Int)))) : ZD))
   else
   none
  else
  none
 else
 ((Zc8 (v1) (v2) (v3) (v4) (v5) (v6) (v0) N).bind fun r => match r with
 | .r0 y1_0 =>
  some (.inr (.r0 (y1_0) : ZD))
 | .r1 y1_0 =>
  some (.inr (.r1 (v0) (v1) (y1_0) (v3) (v4) (v5) (v6) : ZD))
 | .r2 y1_0 y1_1 y1_2 y1_3 =>
  some (.inr (.r2 (v0) (v1) (y1_1) (y1_0) (v4) (v5) (y1_2) (y1_3) (v6) : ZD))
 )

def Za0 (L0 : List Int) (a1 : Int) (L2 : List R_si) (N : Nat) : ZA → Option (ZA ⊕ ZD)
 | .h1m0 v0 v1 v2 v3 v4 v5 v6 => ZaA L0 a1 L2 N v0 v1 v2 v3 v4 v5 v6

def Zet (L0 : List Int) (a1 : Int) (L2 : List R_si) (N : Nat) : Option (ZA ⊕ ZD) :=
 some (.inl (.h1m0 (L2) (L0) (a1) (([] : List RA)) (([] : List Int)) (([] : List R_is)) (([] : List (List Int))) : ZA))

def ZcQ (L0 : List Int) (a1 : Int) (L2 : List R_si) (N : Nat) : Option ZD := goM (Za0 L0 a1 L2 N) N (Zet L0 a1 L2 N)

inductive Zbs where
 | r0 (w0 : Int) (w1 : Int)
 | r1 (w0 : List RA)

def ZcI (L0 : List Int) (N : Nat) : Option Zbs :=
 if (262144 : Int) < (((Za L0).size : Nat) : Int) then
  some (.r0 ((0 : Int)) ((2 : Int)) : Zbs)
 else
 ((ZcQ (L0) ((0 : Int)) (([] : List R_si)) N).bind fun r => match r with
 | .r0 y1_0 =>
  some (.r0 (y1_0) ((130 : Int)) : Zbs)
 | .r1 y1_0 y1_1 y1_2 y1_3 y1_4 y1_5 y1_6 =>
  some (.r1 (y1_3) : Zbs)
 | .r2 y1_0 y1_1 y1_2 y1_3 y1_4 y1_5 y1_6 y1_7 y1_8 =>
  some (.r1 (y1_3) : Zbs)
 )
end Ev
end Go.Proofs.YtlbbiflodemagaaDoor
/- How records are written, and which functions are told. -/
namespace Go.Proofs.YtlbbiflodemagaaDoor
open Go.RowKit
namespace Ev
set_option linter.unusedVariables false
def Zd : Enc RA := ⟨fun x => [.i x.a0, .i x.a1, .i x.a2, .i x.a3], 4, RA.z, fun _ => rfl, fun _ => rfl⟩
def Zt : Enc R_is := ⟨fun x => [.i x.a0, .s (Za x.a1)], 2, R_is.z, fun _ => rfl, fun _ => rfl⟩
def Zba (L : List R_si) : List MapEntry := L.map fun x => ⟨.string (Za x.a0), .int .i64 x.a1, 0⟩
def Zk (L : List R_si) : Obj := .map (Zba L).toArray 0
theorem ZtE (k : List Int) : ∀ (L : List R_si) (i : Nat), Instr.findNow .string (.string (Za k)) (Zba L) i = some ((L.findIdx? (fun x => ZaN k x.a0)).map fun j => (i + j, .int .i64 (ZE L k)))
 | [], i => rfl
 | x :: L, i => by
  have ih := ZtE k L (i + 1)
  simp only [Zba, List.map_cons, Instr.findNow, Instr.sameNow]
  simp only [Zba] at ih
  rw [List.findIdx?_cons]
  cases h : ZaN k x.a0 with
  | true =>
   have h' : (Za k == Za x.a0) = true := h
   simp [h', ZE, List.find?_cons, h]
  | false =>
   have h' : (Za k == Za x.a0) = false := h
   have hg : ZE (x :: L) k = ZE L k := by simp only [ZE, List.find?_cons, h]
   rw [hg]
   simp only [h', ih, Bool.false_eq_true, if_false]
   cases L.findIdx? (fun x => ZaN k x.a0) with
   | none => rfl
   | some j => simp; omega
theorem Zv9 {L : List R_si} {k : List Int} : Zes L k = (L.findIdx? (fun x => ZaN k x.a0)).isSome := by
 induction L with
 | nil => rfl
 | cons x L ih =>
  unfold Zes at ih ⊢
  rw [List.any_cons, List.findIdx?_cons, ih]
  cases h : ZaN k x.a0 with
  | true => rfl
  | false => cases L.findIdx? (fun x => ZaN k x.a0) <;> rfl
section
variable {P : Program} {kt : TypeId} (hu : P.underlying kt = some .string)
include hu
theorem Zoc (k : List Int) (L : List R_si) : Zbu P kt (.string (Za k)) (Zba L) = some ((L.findIdx? (fun x => ZaN k x.a0)).map fun j => (j, .int .i64 (ZE L k))) := by
 unfold Zbu
 rw [hu]
 show Instr.findNow .string (.string (Za k)) (Zba L) 0 = _
 rw [ZtE]
 simp
theorem Zxh {x : ByteArray} {L : List R_si} {k : List Int} (hx : x = Za k) (h : Zes L k = true) : (Zbu P kt (.string x) (Zba L)).map (Option.map Prod.snd) = some (some (.int .i64 (ZE L k))) := by
 subst hx
 rw [Zoc hu]
 rw [Zv9] at h
 cases hi : L.findIdx? (fun x => ZaN k x.a0) with
 | none => rw [hi] at h; cases h
 | some j => rfl
theorem Zxi {x : ByteArray} {L : List R_si} {k : List Int} (hx : x = Za k) (h : ¬ (Zes L k = true)) : (Zbu P kt (.string x) (Zba L)).map (Option.map Prod.snd) = some none := by
 subst hx
 rw [Zoc hu]
 rw [Zv9] at h
 cases hi : L.findIdx? (fun x => ZaN k x.a0) with
 | none => rfl
 | some j => rw [hi] at h; exact absurd rfl h
omit hu in
theorem ZtF (k : List Int) (v : Int) : ∀ (L : List R_si), (match L.findIdx? (fun x => ZaN k x.a0) with | none => Zba L ++ [⟨.string (Za k), .int .i64 v, 0⟩] | some j => (Zba L).modify j fun e => ⟨.string (Za k), .int .i64 v, e.born⟩) = Zba (Zc3 L k v)
 | [] => rfl
 | x :: L => by
  rw [List.findIdx?_cons]
  cases h : ZaN k x.a0 with
  | true =>
   simp only [if_true, Zc3, h]
   simp [Zba]
  | false =>
   simp only [Bool.false_eq_true, if_false, Zc3, h]
   have ih := ZtF k v L
   cases hi : L.findIdx? (fun x => ZaN k x.a0) with
   | none =>
    rw [hi] at ih
    simp only [Option.map_none]
    simp only [Zba, List.map_cons, List.cons_append] at ih ⊢
    rw [ih]
   | some j =>
    rw [hi] at ih
    simp only [Option.map_some]
    simp only [Zba, List.map_cons, List.modify_succ_cons] at ih ⊢
    rw [ih]
omit hu in
theorem Zx7 {k : List Int} : ∀ {L : List R_si} {j : Nat}, L.findIdx? (fun x => ZaN k x.a0) = some j → (((Zba L)[j]?).map (·.key)).getD (.string (Za k)) = .string (Za k) := by
 intro L j h
 obtain ⟨hj, hp, _⟩ := List.findIdx?_eq_some_iff_getElem.1 h
 have hp' : Za k = Za (L[j].a0) := bEq.1 hp
 simp [Zba, hj, hp']
theorem Zx8 {x : ByteArray} {k : List Int} (hx : x = Za k) (L : List R_si) (v : Int) : putM P kt (.string x) (.int .i64 v) (Zba L) = some (Zba (Zc3 L k v)) := by
 subst hx
 unfold putM
 rw [Zoc hu]
 have h := ZtF k v L
 cases hi : L.findIdx? (fun x => ZaN k x.a0) with
 | none => rw [hi] at h; exact congrArg some h
 | some j =>
  rw [hi] at h
  simp only [Option.map_some]
  rw [Zx7 hi]
  have hs : Instr.sameBits 10000 (.string (Za k)) (.string (Za k)) = true := bEq.2 rfl
  rw [hs]
  exact congrArg some h
end
theorem ZpA {x : ByteArray} {L : List R_si} {k : List Int} (hx : x = Za k) (h : Zes L k = true) : (Zbu Tryd.prog 9 (.string x) (Zba L)).map (Option.map Prod.snd) = some (some (.int .i64 (ZE L k))) := Zxh Tryd.underlying9 hx h
theorem Znb {x : ByteArray} {L : List R_si} {k : List Int} (hx : x = Za k) (h : ¬ (Zes L k = true)) : (Zbu Tryd.prog 9 (.string x) (Zba L)).map (Option.map Prod.snd) = some none := Zxi Tryd.underlying9 hx h
theorem Zxj {x : ByteArray} {k : List Int} (hx : x = Za k) (L : List R_si) (v : Int) : putM Tryd.prog 9 (.string x) (.int .i64 v) (Zba L) = some (Zba (Zc3 L k v)) := Zx8 Tryd.underlying9 hx L v
instance : Inhabited RA := ⟨RA.z⟩
instance : Inhabited R_is := ⟨R_is.z⟩
instance : Inhabited R_si := ⟨R_si.z⟩
def Zss : FuncId → Option (List Value → Option Value) := fun f =>
 bif Nat.beq f 8 then some (fun l => match l with | [] => some (.bool true) | _ => none) else
 none
theorem ZuE (w : World) (ht : TabW w) : Calls Tryd.prog 8 #[] w (Ret (.bool true) w) := ZtD w ht
theorem Zxk : ZmW Zss := fun f g h => by
 unfold Zss at h
 cases hb : Nat.beq f 8 with
 | true =>
  rw [hb] at h
  obtain rfl := Nat.eq_of_beq_eq_true hb
  simp only [cond_true, Option.some.injEq] at h
  subst h
  refine ⟨⟨_, _, Tryd.func8, rfl⟩, fun args v ha hv w ht => ?_⟩
  obtain ⟨l⟩ := args
  cases l with
  | nil =>
   change some (Value.bool true) = some v at hv
   injection hv with hv
   subst hv
   exact ZuE w ht
  | cons x l => change (none : Option Value) = some v at hv; cases hv
 | false =>
  rw [hb] at h
  simp only [cond_false] at h
  cases h
def ZvA : FuncId → Bool := fun f => Nat.beq f 52 || Nat.beq f 51 || Nat.beq f 50 || Nat.beq f 62 || Nat.beq f 38 || Nat.beq f 9 || Nat.beq f 59 || Nat.beq f 16 || Nat.beq f 61 || Nat.beq f 14
noncomputable def Zst : FuncId → Option Ext := Zmy (ZrX Zss) ZvA
theorem Zww : Fit Tryd.prog Zst := ZrY (Zu6 Zxk) (fun f h => by
 simp only [ZvA, Bool.or_eq_true] at h
 simp only [Nat.beq_eq] at h
 rcases h with ((((((((rfl | rfl) | rfl) | rfl) | rfl) | rfl) | rfl) | rfl) | rfl) | rfl
 ·exact ⟨_, _, Tryd.func52, rfl⟩
 ·exact ⟨_, _, Tryd.func51, rfl⟩
 ·exact ⟨_, _, Tryd.func50, rfl⟩
 ·exact ⟨_, _, Tryd.func62, rfl⟩
 ·exact ⟨_, _, Tryd.func38, rfl⟩
 ·exact ⟨_, _, Tryd.func9, rfl⟩
 ·exact ⟨_, _, Tryd.func59, rfl⟩
 ·exact ⟨_, _, Tryd.func16, rfl⟩
 ·exact ⟨_, _, Tryd.func61, rfl⟩
 ·exact ⟨_, _, Tryd.func14, rfl⟩
 )
noncomputable def Zsu : FuncId → Option Ext := Zmy Zmx (fun f => Nat.beq f 38)
theorem Zwx : Fit Tryd.prog Zsu := ZrY ZnW (fun f h => by
 simp only [Nat.beq_eq] at h
 subst h
 exact ⟨_, _, Tryd.func38, rfl⟩)
noncomputable def ZG : FuncId → Option Ext := fun x => bif Nat.beq x 30 then some (.hp (Zjj Tryd.prog Zsu 20000 30)) else Zst x
theorem ZdU : Fit Tryd.prog ZG := ZtC Zww (Zlz Zwx Tryd.func30 rfl)
noncomputable abbrev rdc (L1 : List Int) (a2 : Int) (L3 : List RA) (L4 : List Int) (L5 : List R_is) (L6 : List (List Int)) : List Value := [Value.string (Za L1), vi a2, vs 1 0 L3.length L3.length, vs 2 0 L4.length L4.length, vs 3 0 L5.length L5.length, vs 4 0 L6.length L6.length, Value.map (some 5)]
noncomputable abbrev rpr (L1 : List Int) (a2 : Int) (L3 : List RA) (L4 : List Int) (L5 : List R_is) (L6 : List (List Int)) (L7 : List R_si) : List AObj := [.cells (rdc L1 a2 L3 L4 L5 L6) 57, .cells (Zb Zd L3) 24 true, .cells (Zb eI L4) 3 true, .cells (Zb Zt L5) 122 true, .cells (Zb Zr L6) 9 true, .ro (Zk L7) true]
abbrev wsl (M : List Int) (k : Nat) : List Cell := [.s (Za (wd M k))]
theorem ZbK {M : List Int} (i : Nat) (h : i < (wds M).length) : Za4 (Z8 1 (List.drop (0 + i * 1) (Zb Zr (wds M)))) (wsl M i) = true := Zc0 (E := Zr) (L := wds M) (i := i) (q := 0) h (show 0 + i * 1 = i * 1 + 0 from by omega) (show 0 + 1 ≤ 1 from by decide) rfl rfl
theorem nBf {b : Bool} (h : b = true := by first | assumption | exact Decidable.not_not.1 (by assumption) | simp_all) : (!b) = false := Zx3 h
theorem nBt {b : Bool} (h : ¬ (b = true) := by first | assumption | simp_all) : (!b) = true := Zx2 h
abbrev aic (v : List RA) (k : Nat) : List Cell := [.i (ai v k).a0, .i (ai v k).a1, .i (ai v k).a2, .i (ai v k).a3]
def numb : Nat → List Bool → List (Nat × Bool)
 | _, [] => []
 | k, c :: r => (k, c) :: numb (k + 1) r
abbrev o0 : Bool := false
abbrev o1 : Bool := true
noncomputable def Z2 (b : List Bool) (v : List (Nat × Int)) (x : List (Nat × Nat)) (l : List (Nat × List Cell)) (w : List (Nat × Za8)) : Orc := Zs (numb 0 b) v x l w
theorem dcd {p : Prop} [Decidable p] (h : p := by decide) : p := h
end Ev
end Go.Proofs.YtlbbiflodemagaaDoor
