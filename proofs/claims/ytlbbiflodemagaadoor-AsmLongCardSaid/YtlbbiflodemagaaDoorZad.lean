/- The law AsmLong, for every input. -/
import Derived.Test.YtlbbiflodemagaaDoorZac
import Derived.Lib.AtoiTie
import Derived.Test.YtlbbiflodemagaaDoorZab
import Derived.StillTail
import Derived.OrdersHeld
import Derived.WideBlind
import Derived.Lib.LaidTab
import Derived.LaidMore
import Derived.LaidSub
import Derived.MakeChecks
import Derived.Handed
import Derived.Stop.Joined
import Derived.LaidLaws
import Derived.Test.YtlbbiflodemagaaDoorTie
import Derived.Test.YtlbbiflodemagaaDoorCards
import Derived.Lay
set_option linter.unusedSimpArgs false
set_option linter.unusedVariables false
/- Numbers. -/
namespace Go.Proofs.YtlbbiflodemagaaDoor
open Go.RowKit
namespace Ev
set_option linter.unusedVariables false
theorem TabW.below {w w' : World} (h : TabW w) (hb : Below w.heap.size w w') : TabW w' := fun x hx => by
 obtain ⟨C, t, fr, h1, h2⟩ := h x hx
 exact ⟨C, t, fr, (hb.block _ (Array.getElem?_eq_some_iff.1 h1).1).trans h1, h2⟩
theorem Zn8 (a b : List Int) : ∀ acc, Zep acc (a ++ b) = Zep (Zep acc a) b := by
 induction a with
 | nil => intro acc; rfl
 | cons x a ih => intro acc; exact ih _
theorem ZkK (a b : List UInt8) : ∀ acc, Lib.decFrom acc (a ++ b) = (Lib.decFrom acc a).bind fun m => Lib.decFrom m b := by
 induction a with
 | nil => intro acc; rfl
 | cons x a ih =>
  intro acc
  show (match Lib.digitVal x with | some d => Lib.decFrom (acc * 10 + d) (a ++ b) | none => none) = Option.bind (match Lib.digitVal x with | some d => Lib.decFrom (acc * 10 + d) a | none => none) _
  cases Lib.digitVal x with
  | none => rfl
  | some d => exact ih _
theorem ZiB (d : Nat) (hd : d < 10) (acc : Nat) : Lib.decFrom acc (u8s [((48 + d : Nat) : Int)]) = some (acc * 10 + d) := by
 have h : Lib.digitVal (UInt8.ofNat (48 + d)) = some d := by
  unfold Lib.digitVal
  have : (UInt8.ofNat (48 + d)).toNat = 48 + d := by rw [UInt8.toNat_ofNat']; omega
  rw [this, if_pos (by omega)]
  congr 1; omega
 show (match Lib.digitVal (UInt8.ofNat ((48 + d : Nat) : Int).toNat) with | some d => Lib.decFrom (acc * 10 + d) [] | none => none) = _
 rw [Int.toNat_natCast, h]
 rfl
def ZjT (u : Nat) (l : List Int) : Prop := u < 10 ^ l.length ∧ 0 < l.length ∧ (l.length = 1 ∨ 10 ^ (l.length - 1) ≤ u) ∧ (∀ x ∈ l, 48 ≤ x ∧ x ≤ 57) ∧ (∀ a, Zep a l = a * 10 ^ l.length + u) ∧ ∀ a, Lib.decFrom a (u8s l) = some (a * 10 ^ l.length + u)
theorem Zlk : ∀ (f u : Nat), 0 < f → u < 10 ^ f → ZjT u (ZbU f u)
 | 0, u, h, _ => by omega
 | f + 1, u, _, hu => by
  unfold ZbU
  by_cases h10 : u < 10
  ·rw [if_pos h10]
   refine ⟨by simpa using h10, by simp, .inl rfl, fun x hx => ?_, fun a => ?_, fun a => ?_⟩
   ·obtain rfl := List.mem_singleton.1 hx; omega
   ·show a * 10 + (((48 + u : Nat) : Int) - 48).toNat = _
    simp; omega
   ·rw [ZiB u h10 a]; simp
  ·rw [if_neg h10]
   have hf : 0 < f := by
    rcases Nat.eq_zero_or_pos f with rfl | h
    ·simp at hu; omega
    ·exact h
   obtain ⟨i1, i2, i3, i4, i5, i6⟩ := Zlk f (u / 10) hf (by rw [Nat.pow_succ] at hu; exact Nat.div_lt_of_lt_mul (by omega))
   generalize ZbU f (u / 10) = l at *
   have hlen : (l ++ [((48 + u % 10 : Nat) : Int)]).length = l.length + 1 := by simp
   refine ⟨?_, by rw [hlen]; omega, .inr ?_, fun x hx => ?_, fun a => ?_, fun a => ?_⟩
   ·rw [hlen, Nat.pow_succ]; omega
   ·rw [hlen, Nat.add_sub_cancel]
    obtain ⟨k, hk⟩ : ∃ k, l.length = k + 1 := ⟨l.length - 1, by omega⟩
    rcases i3 with h1 | h1
    ·rw [h1]; omega
    ·rw [hk] at h1 ⊢
     rw [Nat.add_sub_cancel] at h1
     rw [Nat.pow_succ]; omega
   ·rcases List.mem_append.1 hx with h | h
    ·exact i4 x h
    ·obtain rfl := List.mem_singleton.1 h; omega
   ·rw [Zn8, i5, hlen]
    show (a * 10 ^ l.length + u / 10) * 10 + (((48 + u % 10 : Nat) : Int) - 48).toNat = _
    have : (((48 + u % 10 : Nat) : Int) - 48).toNat = u % 10 := by omega
    rw [this, Nat.pow_succ, ← Nat.mul_assoc, Nat.add_mul]
    omega
   ·rw [Zgh, ZkK, i6, hlen]
    show Lib.decFrom _ (u8s [((48 + u % 10 : Nat) : Int)]) = _
    rw [ZiB _ (by omega), Nat.pow_succ, ← Nat.mul_assoc, Nat.add_mul]
    congr 1
    omega
theorem Zeb {u : Nat} (h : u < 10 ^ 20) : ZjT u (ZbU 20 u) := Zlk 20 u (by decide) h
theorem ZfL {u : Nat} {l : List Int} (h : ZjT u l) (k : Nat) (hk : 0 < k) : l.length ≤ k ↔ u < 10 ^ k := by
 obtain ⟨h1, h2, h3, _⟩ := h
 constructor
 ·intro hl
  exact Nat.lt_of_lt_of_le h1 (Nat.pow_le_pow_right (by decide) hl)
 ·intro hu
  rcases h3 with h3 | h3
  ·omega
  ·rcases Nat.lt_or_ge k l.length with hl | hl
   ·have := Nat.pow_le_pow_right (n := 10) (by decide) (show k ≤ l.length - 1 by omega)
    omega
   ·exact hl
theorem Zfc {u : Nat} {l : List Int} (h : ZjT u l) : ∃ x r, l = x :: r ∧ 48 ≤ x ∧ x ≤ 57 := by
 cases l with
 | nil => have := h.2.1; simp at this
 | cons x r => exact ⟨x, r, rfl, h.2.2.2.1 x List.mem_cons_self⟩
theorem ZjU {n : Int} (h0 : -9223372036854775808 ≤ n) (h1 : n ≤ 9223372036854775807) : Zie (Zbz n) = n := by
 unfold Zbz
 by_cases hn : n < 0
 ·rw [if_pos hn]
  have hd := Zeb (u := n.natAbs) (by omega)
  show (if (45 : Int) = 45 then -(Zep 0 (ZbU 20 n.natAbs) : Int) else (Zep 0 (45 :: ZbU 20 n.natAbs) : Int)) = n
  rw [if_pos rfl, hd.2.2.2.2.1 0]
  omega
 ·rw [if_neg hn]
  have hd := Zeb (u := n.toNat) (by omega)
  obtain ⟨x, r, e, hx⟩ := Zfc hd
  have h5 := hd.2.2.2.2.1 0
  rw [e] at h5 ⊢
  show (if x = 45 then _ else (Zep 0 (x :: r) : Int)) = n
  rw [if_neg (by omega), h5]
  omega
theorem ZiC {u : Nat} {l : List Int} (h : ZjT u l) : ZM l = true := by
 unfold ZM
 rw [List.all_eq_true]
 intro x hx
 have := h.2.2.2.1 x hx
 simp only [Bool.and_eq_true, decide_eq_true_eq]
 omega
theorem ZlW (n : Int) (h0 : -9223372036854775808 ≤ n) (h1 : n ≤ 9223372036854775807) : ZM (Zbz n) = true := by
 unfold Zbz
 by_cases hn : n < 0
 ·rw [if_pos hn]; exact ZaM.2 ⟨by omega, ZiC (Zeb (by omega))⟩
 ·rw [if_neg hn]; exact ZiC (Zeb (by omega))
theorem Zll : ∀ {a b : List Int}, ZM a = true → ZM b = true → u8s a = u8s b → a = b
 | [], [], _, _, _ => rfl
 | [], _ :: _, _, _, h => by simp [u8s] at h
 | _ :: _, [], _, _, h => by simp [u8s] at h
 | x :: a, y :: b, h1, h2, h => by
  obtain ⟨⟨q0, q1⟩, q2⟩ := ZaM.1 h1
  obtain ⟨⟨r0, r1⟩, r2⟩ := ZaM.1 h2
  simp only [u8s, List.map_cons, List.cons.injEq] at h
  have e := congrArg UInt8.toNat h.1
  rw [UInt8.toNat_ofNat', UInt8.toNat_ofNat'] at e
  have : x = y := by omega
  rw [this, Zll q2 r2 h.2]
theorem Zou {n : Int} (h0 : -9223372036854775808 ≤ n) (h1 : n ≤ 9223372036854775807) : u8s (Zbz n) = Lib.itoa n := by
 have := congrArg (fun x : ByteArray => x.data.toList) (Zic h0 h1)
 simpa [ZY] using this
def ZeG : List Int → List Int
 | [] => []
 | x :: l => if x = 45 then l else x :: l
theorem Zg7 (n : Int) (h0 : -9223372036854775808 ≤ n) (h1 : n ≤ 9223372036854775807) : ZeG (Zbz n) = ZbU 20 n.natAbs := by
 unfold Zbz
 by_cases hn : n < 0
 ·rw [if_pos hn]; rfl
 ·rw [if_neg hn]
  have e : n.toNat = n.natAbs := by omega
  obtain ⟨x, r, e2, hx⟩ := Zfc (Zeb (u := n.toNat) (by omega))
  rw [e2]
  show (if x = 45 then r else x :: r) = _
  rw [if_neg (by omega), ← e2, e]
theorem ZmL {n : Int} (h0 : -10000000000000 < n) (h1 : n < 10000000000000) : Lib.atoiAll (u8s (Zbz n)) = .ok n := by
 have hd := Zeb (u := n.natAbs) (by omega)
 have hl := (ZfL hd 13 (by decide)).2 (by omega)
 have hu : ∀ l : List Int, (u8s l).length = l.length := fun l => List.length_map ..
 unfold Zbz
 by_cases hn : n < 0
 ·rw [if_pos hn, Lib.atoiAll_short _ (by rw [hu]; simp; omega)]
  have h6 := hd.2.2.2.2.2 0
  have hne : (u8s (ZbU 20 n.natAbs)).isEmpty = false := by
   obtain ⟨x, r, e2, _⟩ := Zfc hd
   rw [e2]; rfl
  have : Lib.atoi (u8s (45 :: ZbU 20 n.natAbs)) = (Lib.decNat (u8s (ZbU 20 n.natAbs))).map fun (m : Nat) => -(m : Int) := rfl
  rw [this]
  unfold Lib.decNat
  rw [hne, h6]
  show Lib.NumEnd.ok (-((0 * _ + n.natAbs : Nat) : Int)) = _
  congr 1; omega
 ·have e : n.toNat = n.natAbs := by omega
  rw [if_neg hn, e, Lib.atoiAll_short _ (by rw [hu]; omega)]
  have h6 := hd.2.2.2.2.2 0
  obtain ⟨x, r, e2, hx⟩ := Zfc hd
  rw [e2] at h6 ⊢
  have hb : (UInt8.ofNat x.toNat).toNat = x.toNat := by rw [UInt8.toNat_ofNat']; omega
  have n45 : (UInt8.ofNat x.toNat == 45) = false := beq_eq_false_iff_ne.2 fun h => by have := congrArg UInt8.toNat h; rw [hb] at this; have h45 : (45 : UInt8).toNat = 45 := rfl; omega
  have n43 : (UInt8.ofNat x.toNat == 43) = false := beq_eq_false_iff_ne.2 fun h => by have := congrArg UInt8.toNat h; rw [hb] at this; have h43 : (43 : UInt8).toNat = 43 := rfl; omega
  have : Lib.atoi (u8s (x :: r)) = (Lib.decNat (u8s (x :: r))).map fun (m : Nat) => (m : Int) := by
   show (if (UInt8.ofNat x.toNat == 45) = true then _ else if (UInt8.ofNat x.toNat == 43) = true then _ else _) = _
   rw [n45, n43]; rfl
  rw [this]
  unfold Lib.decNat
  show Lib.NumEnd.ofOption (Option.map _ (if (u8s (x :: r)).isEmpty = true then none else _)) = _
  rw [if_neg (by simp [u8s]), h6]
  show Lib.NumEnd.ok (((0 * _ + n.natAbs : Nat) : Int)) = _
  congr 1; omega
theorem ZfM {M : List Int} : Zgk M = true ↔ ∃ n : Int, -10000000000000 < n ∧ n < 10000000000000 ∧ M = Zbz n := by
 unfold Zgk
 simp only [Bool.and_eq_true, decide_eq_true_eq]
 constructor
 ·rintro ⟨h1, h2, h3⟩; exact ⟨_, h2, h3, h1⟩
 ·rintro ⟨n, h1, h2, rfl⟩
  rw [ZjU (by omega) (by omega)]
  exact ⟨rfl, h1, h2⟩
theorem trim_neg {M : List Int} (hb : ZM M = true) : Lib.trimPrefix (u8s M) [45] = u8s (match M with | [] => [] | x :: l => if x = 45 then l else x :: l) := by
  cases M with
  | nil => rfl
  | cons x l =>
    obtain ⟨⟨h0, h1⟩, h2⟩ := ZaM.1 hb
    have h := ZnQ (b := 45) h0 h1
    have e : Lib.trimPrefix (u8s (x :: l)) [45] = if (UInt8.ofNat x.toNat == 45) = true then u8s l else u8s (x :: l) := by
      unfold Lib.trimPrefix Lib.hasPrefix
      show (if ([45].isPrefixOf (UInt8.ofNat x.toNat :: u8s l)) = true then _ else _) = _
      have : ([45] : List UInt8).isPrefixOf (UInt8.ofNat x.toNat :: u8s l) = (UInt8.ofNat x.toNat == 45) := by
        show ((45 : UInt8) == UInt8.ofNat x.toNat && true) = _
        rw [Bool.and_true, BEq.comm]
      rw [this]; rfl
    rw [e, h]
    by_cases hx : x = 45
    · rw [if_pos (by rw [decide_eq_true_eq]; exact hx)]; simp only [hx, if_true]
    · rw [if_neg (by rw [decide_eq_true_eq]; exact hx)]; simp only [hx, if_false]
theorem bytesWorld_below' (w : World) (t : TypeId) (x : _) : Below w.heap.size w (Lib.bytesWorld w t x) := Lib.bytesWorld_below _ _ _
theorem below_atoi {w w' : World} {t : TypeId} (h : w' = w ∨ ∃ x, w' = Lib.bytesWorld w t x) : Below w.heap.size w w' := by
  rcases h with rfl | ⟨x, rfl⟩
  · exact Below.refl _ _
  · exact Lib.bytesWorld_below _ _ _
theorem tabErr {w : World} (h : TabW w) : ∃ ev, w.cell? ⟨6, 0, none⟩ = some ev ∧ (ev = .nilIface ∨ ∃ te pe, ev = .iface te pe) := by
  obtain ⟨C, t, fr, hw, y, hy, hC⟩ := h (6, []) (by simp [tabs])
  exact ⟨y, by rw [Lib.cell_of_heap hw]; exact hy, hC⟩
theorem number_bad (x : ByteArray) (w : World) (h : (Lib.trimPrefix x.data.toList [45]).length < 1 ∨ 13 < (Lib.trimPrefix x.data.toList [45]).length) : Calls Tryd.prog 68 #[.string x] w fun e w' => e = .returned (.tuple #[.int .i64 0, .bool false]) ∧ Below w.heap.size w w' := by
  have hsz : (⟨(Lib.trimPrefix x.data.toList [45]).toArray⟩ : ByteArray).size = (Lib.trimPrefix x.data.toList [45]).length := by simp [ByteArray.size]
  generalize hd : Lib.trimPrefix x.data.toList [45] = d at *
  go_enter Tryd.func68, Tryd.ntmps68
  go_wp2_with fail
  refine (Any.strings_TrimPrefix lays101 _ _ _).mono ?_
  rintro e w1 ⟨rfl, rfl⟩
  rw [show (⟨#[45]⟩ : ByteArray).data.toList = [45] from rfl, hd]
  go_wp2_with fail
  all_goals (first | (go_ret; exact ⟨rfl, Below.refl _ _⟩) | (go_ret2; exact ⟨rfl, Below.refl _ _⟩) | (go_ret3; exact ⟨rfl, Below.refl _ _⟩))
theorem number_syn (x : ByteArray) (w : World) (ht : TabW w) (h0 : 1 ≤ (Lib.trimPrefix x.data.toList [45]).length) (h1 : (Lib.trimPrefix x.data.toList [45]).length ≤ 13) (hx : x.size ≤ 100) (hs1 : ∀ n, Lib.atoiAll x.data.toList ≠ .ok n) (hs2 : Lib.atoiAll x.data.toList ≠ .range) : Calls Tryd.prog 68 #[.string x] w fun e w' => e = .returned (.tuple #[.int .i64 0, .bool false]) ∧ Below w.heap.size w w' := by
  have hsz : (⟨(Lib.trimPrefix x.data.toList [45]).toArray⟩ : ByteArray).size = (Lib.trimPrefix x.data.toList [45]).length := by simp [ByteArray.size]
  obtain ⟨ev, hv, hev⟩ := tabErr ht
  generalize hd : Lib.trimPrefix x.data.toList [45] = d at *
  have h0' : ¬ ((d.length : Int) < 1) := by omega
  have h1' : ¬ (13 < (d.length : Int)) := by omega
  go_enter Tryd.func68, Tryd.ntmps68
  go_wp2_with fail
  refine (Any.strings_TrimPrefix lays101 _ _ _).mono ?_
  rintro e w1 ⟨rfl, rfl⟩
  rw [show (⟨#[45]⟩ : ByteArray).data.toList = [45] from rfl, hd]
  go_wp2_with fail
  all_goals first | (exfalso; omega) | skip
  all_goals (refine (Any.strconv_Atoi_syntax laysC172 x (by omega) (by cases hq : Lib.atoiAll x.data.toList with | ok n => exact absurd hq (hs1 n) | range => exact absurd hq hs2 | _ => rfl) ev _ hv hev).mono ?_)
  all_goals (rintro e w2 ⟨N, rfl, q1, q2, q3⟩)
  all_goals (go_wp2_with fail)
  all_goals (first | (go_ret; exact ⟨rfl, q3⟩) | (go_ret2; exact ⟨rfl, q3⟩) | (go_ret3; exact ⟨rfl, q3⟩))
theorem number_ok (x : ByteArray) (w : World) (ht : TabW w) (h0 : 1 ≤ (Lib.trimPrefix x.data.toList [45]).length) (h1 : (Lib.trimPrefix x.data.toList [45]).length ≤ 13) (hx : x.size ≤ 100) (n : Int) (hs : Lib.atoiAll x.data.toList = .ok n) (he : (⟨(Lib.itoa n).toArray⟩ : ByteArray) = x) : Calls Tryd.prog 68 #[.string x] w fun e w' => e = .returned (.tuple #[.int .i64 n, .bool true]) ∧ Below w.heap.size w w' := by
  have hsz : (⟨(Lib.trimPrefix x.data.toList [45]).toArray⟩ : ByteArray).size = (Lib.trimPrefix x.data.toList [45]).length := by simp [ByteArray.size]
  obtain ⟨b0, b1⟩ := Lib.atoiAll_bounds hs
  generalize hd : Lib.trimPrefix x.data.toList [45] = d at *
  have h0' : ¬ ((d.length : Int) < 1) := by omega
  have h1' : ¬ (13 < (d.length : Int)) := by omega
  have hq : ((⟨(Lib.itoa n).toArray⟩ : ByteArray).toList == x.toList) = true := by rw [he]; exact beq_self_eq_true _
  go_enter Tryd.func68, Tryd.ntmps68
  go_wp2_with fail
  refine (Any.strings_TrimPrefix lays101 _ _ _).mono ?_
  rintro e w1 ⟨rfl, rfl⟩
  rw [show (⟨#[45]⟩ : ByteArray).data.toList = [45] from rfl, hd]
  go_wp2_with fail
  all_goals first | (exfalso; omega) | skip
  all_goals (refine (Any.strconv_Atoi_ok laysC172 x (by omega) n hs _).mono ?_)
  all_goals (rintro e w2 ⟨rfl, q3⟩; have q3 := below_atoi q3)
  all_goals (go_wp2_with fail)
  all_goals (refine (Any.strconv_Itoa lays171 n b0 b1 _ (tabItoa (ht.below q3))).mono ?_; rintro e w3 ⟨rfl, q4⟩; have q4 := Zfa q4; have q5 := q3.trans (q4.mono q3.size))
  all_goals (go_wp2_with fail)
  all_goals (first | (go_ret; exact ⟨rfl, q5⟩) | (go_ret2; exact ⟨rfl, q5⟩) | (go_ret3; exact ⟨rfl, q5⟩))
theorem number_no (x : ByteArray) (w : World) (ht : TabW w) (h0 : 1 ≤ (Lib.trimPrefix x.data.toList [45]).length) (h1 : (Lib.trimPrefix x.data.toList [45]).length ≤ 13) (hx : x.size ≤ 100) (n : Int) (hs : Lib.atoiAll x.data.toList = .ok n) (he : (⟨(Lib.itoa n).toArray⟩ : ByteArray) ≠ x) : Calls Tryd.prog 68 #[.string x] w fun e w' => e = .returned (.tuple #[.int .i64 0, .bool false]) ∧ Below w.heap.size w w' := by
  have hsz : (⟨(Lib.trimPrefix x.data.toList [45]).toArray⟩ : ByteArray).size = (Lib.trimPrefix x.data.toList [45]).length := by simp [ByteArray.size]
  obtain ⟨b0, b1⟩ := Lib.atoiAll_bounds hs
  generalize hd : Lib.trimPrefix x.data.toList [45] = d at *
  have h0' : ¬ ((d.length : Int) < 1) := by omega
  have h1' : ¬ (13 < (d.length : Int)) := by omega
  have hq : (Lib.itoa n == x.toList) = false := beq_eq_false_iff_ne.2 fun h => he (ZfK (by rw [← Lib.toList_data x, ← h]))
  go_enter Tryd.func68, Tryd.ntmps68
  go_wp2_with fail
  refine (Any.strings_TrimPrefix lays101 _ _ _).mono ?_
  rintro e w1 ⟨rfl, rfl⟩
  rw [show (⟨#[45]⟩ : ByteArray).data.toList = [45] from rfl, hd]
  go_wp2_with fail
  all_goals first | (exfalso; omega) | skip
  all_goals (refine (Any.strconv_Atoi_ok laysC172 x (by omega) n hs _).mono ?_)
  all_goals (rintro e w2 ⟨rfl, q3⟩; have q3 := below_atoi q3)
  all_goals (go_wp2_with fail)
  all_goals (refine (Any.strconv_Itoa lays171 n b0 b1 _ (tabItoa (ht.below q3))).mono ?_; rintro e w3 ⟨rfl, q4⟩; have q4 := Zfa q4; have q5 := q3.trans (q4.mono q3.size))
  all_goals (go_wp2_with fail)
  all_goals (first | (go_ret; exact ⟨rfl, q5⟩) | (go_ret2; exact ⟨rfl, q5⟩) | (go_ret3; exact ⟨rfl, q5⟩))
theorem trim_un {M : List Int} (hb : ZM M = true) : Lib.trimPrefix (u8s M) [45] = u8s (ZeG M) := by
  rw [trim_neg hb]
  cases M <;> rfl
theorem num_run {M : List Int} (hb : ZM M = true) (hl : M.length ≤ 1000000) (w : World) (ht : TabW w) : Calls Tryd.prog 68 #[.string (Za M)] w fun e w' => e = .returned (if Zgk M = true then .tuple #[.int .i64 (Zie M), .bool true] else .tuple #[.int .i64 0, .bool false]) ∧ Below w.heap.size w w' := by
  have hu : ∀ l : List Int, (u8s l).length = l.length := fun l => List.length_map ..
  have htr : (Lib.trimPrefix (Za M).data.toList [45]).length = (ZeG M).length := by rw [ZY, trim_un hb, hu]
  have hun : M.length ≤ (ZeG M).length + 1 := by
    cases M with
    | nil => simp
    | cons x l =>
      show l.length + 1 ≤ (if x = 45 then l else x :: l).length + 1
      split <;> simp
  by_cases hbad : (ZeG M).length < 1 ∨ 13 < (ZeG M).length
  · have hno : ¬ Zgk M = true := fun h => by
      obtain ⟨n, n1, n2, rfl⟩ := ZfM.1 h
      have hd := Zeb (u := n.natAbs) (by omega)
      rw [Zg7 n (by omega) (by omega)] at hbad
      have := (ZfL hd 13 (by decide)).2 (by omega)
      have := hd.2.1
      omega
    rw [if_neg hno]
    exact number_bad _ w (by rw [htr]; exact hbad)
  · have hsz : (Za M).size ≤ 100 := by rw [Zea]; omega
    have g0 : 1 ≤ (Lib.trimPrefix (Za M).data.toList [45]).length := by rw [htr]; omega
    have g1 : (Lib.trimPrefix (Za M).data.toList [45]).length ≤ 13 := by rw [htr]; omega
    by_cases hnum : Zgk M = true
    · rw [if_pos hnum]
      obtain ⟨n, n1, n2, rfl⟩ := ZfM.1 hnum
      rw [ZjU (by omega) (by omega)]
      exact number_ok _ w ht g0 g1 hsz n (by rw [ZY]; exact ZmL n1 n2) (Zic (by omega) (by omega)).symm
    · rw [if_neg hnum]
      rcases ha : Lib.atoiAll (Za M).data.toList with n | _ | _
      ·
        refine number_no _ w ht g0 g1 hsz n ha fun he => hnum ?_
        obtain ⟨b0, b1⟩ := Lib.atoiAll_bounds ha
        have e1 : u8s M = u8s (Zbz n) := by
          have := congrArg (fun x : ByteArray => x.data.toList) he
          rw [ZY] at this
          rw [Zou b0 b1]
          exact this.symm
        have e2 := Zll hb (ZlW n b0 b1) e1
        subst e2
        have hd := Zeb (u := n.natAbs) (by omega)
        rw [Zg7 n b0 b1] at hbad
        have := (ZfL hd 13 (by decide)).1 (by omega)
        exact ZfM.2 ⟨n, by omega, by omega, rfl⟩
      · exact number_syn _ w ht g0 g1 hsz (fun n e => by rw [ha] at e; cases e) (fun e => by rw [ha] at e; cases e)
      ·
        rw [Lib.atoiAll_short _ (by rw [ZY, hu]; omega)] at ha
        cases hq : Lib.atoi (Za M).data.toList <;> rw [hq] at ha <;> cases ha
theorem num_does : Zbu Tryd.prog 68 ZlV := by
  refine ZeD Tryd.func68 rfl (fun args s v s' h => ?_) fun args s v s' h ho => ?_
  · unfold ZlV at h
    split at h
    · split at h
      · rename_i M s1 h1
        split at h
        · rename_i s2 h2; injection h with h; injection h with q1 q2; subst q2; exact (ZaN h1).1.trans (Zco h2).1
        · rename_i s2 h2; injection h with h; injection h with q1 q2; subst q2; exact (ZaN h1).1.trans (Zco h2).1
      · cases h
    · cases h
  · unfold ZlV at h
    split at h
    · rename_i x hl
      have hA : args = #[.string x] := by rw [← Array.toArray_toList (xs := args), hl]
      subst hA
      have hargs : ∀ (ι : Ren) (args' : Array Value), VRs ι #[.string x] args' → args' = #[.string x] := fun ι args' ha => Zbq ha.1 fun i u z hx1 hy1 => (ha.2 i u z hx1 hy1).eq_of_free (Z0 (p := ZI) (a := #[.string x]) rfl i u hx1)
      split at h
      · rename_i M s1 h1
        obtain ⟨_, e1, e2, e3⟩ := ZaN h1
        split at h
        · rename_i s2 h2
          obtain ⟨_, f1, f2, f3, f4⟩ := Zco h2
          injection h with h; injection h with q1 q2; subst q1 q2
          obtain ⟨rfl, hM, hlM⟩ := e3 (ZhE f4 ho)
          refine ⟨f1.trans e1, f2.trans e2, rfl, fun ι w args' ha he => ?_⟩
          obtain rfl := hargs ι args' ha
          have := num_run hM hlM w he.tabw
          rw [if_pos (f3 ho)] at this
          exact this
        · rename_i s2 h2
          obtain ⟨_, f1, f2, f3, f4⟩ := Zco h2
          injection h with h; injection h with q1 q2; subst q1 q2
          obtain ⟨rfl, hM, hlM⟩ := e3 (ZhE f4 ho)
          refine ⟨f1.trans e1, f2.trans e2, rfl, fun ι w args' ha he => ?_⟩
          obtain rfl := hargs ι args' ha
          have := num_run hM hlM w he.tabw
          rw [if_neg (by rw [f3 ho]; simp)] at this
          exact this
      · cases h
    · cases h
end Ev
end Go.Proofs.YtlbbiflodemagaaDoor
/- The runner over this program. -/
namespace Go.Proofs.YtlbbiflodemagaaDoor
open Go.RowKit
namespace Ev

def ZlX : FuncId → Option Ext := fun f =>
   none

theorem noGo : (Tryd.prog.funcs.toList.all fun fn => !(fn.name == "runtime.NumGoroutine")) = true := by kernel_rfl
theorem mixed : Tryd.prog.follows .mixedOrders = true := by kernel_rfl
def Zif (sp : FuncId → Option (List Value → Option Value)) (hp : FuncId → Option (Array Value → St → Out)) : FuncId → Option Ext := fun f => match ZlX f with
  | some e => some e
  | none => match sp f with
    | some g => some (.fn g)
    | none => match hp f with
      | some g => some (.hp g)
      | none => none
def noHp : FuncId → Option (Array Value → St → Out) := fun _ => none
def extW (sp : FuncId → Option (List Value → Option Value)) : FuncId → Option Ext := Zif sp noHp
def ZhG (sp : FuncId → Option (List Value → Option Value)) : Prop := ∀ (f : Nat) (g : List Value → Option Value), sp f = some g → (∃ (fn : Func) (c : Code), Tryd.prog.funcs[f]? = some fn ∧ fn.body = some c) ∧
  ∀ (args : Array Value) (v : Value), Zg ZI args.toList = true → g args.toList = some v → ∀ w, TabW w → Calls Tryd.prog f args w fun e w' => e = .returned v ∧ Below w.heap.size w w'
def ZhH (hp : FuncId → Option (Array Value → St → Out)) : Prop := ∀ (f : Nat) (g : Array Value → St → Out), hp f = some g → Zbu Tryd.prog f g
theorem Zn9 : ZhH noHp := fun f g h => by cases h
theorem ZF {b : Bool} {x e : Ext} {y : Option Ext} (h : (bif b then some x else y) = some e) : (b = true ∧ x = e) ∨ y = some e := by
  cases b with
  | true => exact .inl ⟨rfl, by simpa using h⟩
  | false => exact .inr (by simpa using h)
theorem ZeH {f : Nat} {e : Ext} (he : ZlX f = some e) : (∀ (kk : IntKind) (c : Nat), e = .at kk c → ∃ fn : Func, Tryd.prog.funcs[f]? = some fn ∧ fn.body.isNone = true ∧ Extern.findNext fn = none ∧
    (c = 0 ∧ Extern.find fn = some (Extern.Atomic.loadT (.int kk)) ∨ c = 1 ∧ Extern.find fn = some Extern.Atomic.storeT ∨
     c = 2 ∧ Extern.find fn = some (Extern.Atomic.update (Op.intArith .add) kk true) ∨ c = 3 ∧ Extern.find fn = some (Extern.Atomic.casT (.int kk)))) ∧
    (∀ n : Nat, e = .mark n → ∃ fn : Func, Tryd.prog.funcs[f]? = some fn ∧ fn.body.isNone = true ∧ Extern.findNext fn = none ∧
    (n = 0 ∧ (∃ m : Mark, Extern.find fn = some (fun _ => do mark m; pure Extern.Race.none_)) ∨ n = 1 ∧ ∃ m : Addr → Mark, Extern.find fn = some (Extern.Race.marked m))) ∧ (∀ g, e ≠ .fn g) ∧ (∀ g, e ≠ .hp g) ∧ (∀ S, e ≠ .tc S) := by
  unfold ZlX at he
  cases he
theorem Zc3 {sp : FuncId → Option (List Value → Option Value)} {hp : FuncId → Option (Array Value → St → Out)} {f : Nat} {e : Ext} (h : Zif sp hp f = some e) : ZlX f = some e ∨ (∃ g, sp f = some g ∧ e = .fn g) ∨ ∃ g, hp f = some g ∧ e = .hp g := by
  unfold Zif at h
  split at h
  · rename_i e' he'
    injection h with h; subst h
    exact .inl he'
  · split at h
    · rename_i g hg
      injection h with h; subst h
      exact .inr (.inl ⟨g, hg, rfl⟩)
    · split at h
      · rename_i g hg
        injection h with h; subst h
        exact .inr (.inr ⟨g, hg, rfl⟩)
      · cases h
theorem ZnA {sp : FuncId → Option (List Value → Option Value)} {hp : FuncId → Option (Array Value → St → Out)} (hsp : ZhG sp) (hhp : ZhH hp) : Fit Tryd.prog (Zif sp hp) := by
  refine ⟨mixed, fun f fn hf => ?_, fun f g hg => ?_, fun f g hg => ?_, fun f S hS => ?_, fun f n hn => ?_, fun f kk e he => ?_⟩
  · have := List.all_eq_true.1 noGo fn (by
      obtain ⟨h, rfl⟩ := Array.getElem?_eq_some_iff.1 hf
      simp)
    simpa using this
  · rcases Zc3 hg with h | ⟨g', h, hx⟩ | ⟨g', h, hx⟩
    · exact ((ZeH h).2.2.1 g rfl).elim
    · injection hx with hx; subst hx; exact hsp f g h
    · cases hx
  · rcases Zc3 hg with h | ⟨g', h, hx⟩ | ⟨g', h, hx⟩
    · exact ((ZeH h).2.2.2.1 g rfl).elim
    · cases hx
    · injection hx with hx; subst hx; exact hhp f g h
  · rcases Zc3 hS with h | ⟨g', h, hx⟩ | ⟨g', h, hx⟩
    · exact ((ZeH h).2.2.2.2 S rfl).elim
    · cases hx
    · cases hx
  · rcases Zc3 hn with h | ⟨g', h, hx⟩ | ⟨g', h, hx⟩
    · exact (ZeH h).2.1 n rfl
    · cases hx
    · cases hx
  · rcases Zc3 he with h | ⟨g', h, hx⟩ | ⟨g', h, hx⟩
    · exact (ZeH h).1 kk e rfl
    · cases hx
    · cases hx
theorem fitW {sp : FuncId → Option (List Value → Option Value)} (hsp : ZhG sp) : Fit Tryd.prog (extW sp) := ZnA hsp Zn9
def ZjV : FuncId → Option (List Value → Option Value) := fun _ => none
theorem Zgl : ZhG ZjV := fun f g h => by cases h
def ext1 : FuncId → Option Ext := extW ZjV
theorem fit1 : Fit Tryd.prog ext1 := fitW Zgl
theorem ZaW {β : Type} {b : Bool} {x e : β} {y : Option β} (h : (bif b then some x else y) = some e) : (b = true ∧ x = e) ∨ y = some e := by
  cases b with
  | true => injection h with h; exact .inl ⟨rfl, h⟩
  | false => exact .inr h
noncomputable def hp0 : FuncId → Option (Array Value → St → Out) := fun f =>
  bif Nat.beq f 39 then some Zh7 else
  bif Nat.beq f 85 then some (ZfJ Tryd.prog Extern.BytealgIndexByte.indexByte) else
  bif Nat.beq f 81 then some (ZfJ Tryd.prog Extern.BytealgCount.count) else
  bif Nat.beq f 17 then some Zjd else
  bif Nat.beq f 19 then some Zje else
  bif Nat.beq f 26 then some Zgj else
  bif Nat.beq f 23 then some Zjf else
  bif Nat.beq f 58 then some ZlU else
  bif Nat.beq f 60 then some ZhD else
  bif Nat.beq f 68 then some ZlV else
   none
theorem ZmM : ZhH hp0 := by
  intro f g h
  unfold hp0 at h
  rcases ZaW h with ⟨hb, rfl⟩ | h
  · obtain rfl := Nat.eq_of_beq_eq_true hb; exact ZmG Tryd.func39 (by kernel_rfl) (by kernel_rfl) (by kernel_rfl) (by kernel_rfl)
  rcases ZaW h with ⟨hb, rfl⟩ | h
  · obtain rfl := Nat.eq_of_beq_eq_true hb; exact Zi6 Tryd.func85 (by kernel_rfl) (by kernel_rfl) (by kernel_rfl) (by kernel_rfl)
  rcases ZaW h with ⟨hb, rfl⟩ | h
  · obtain rfl := Nat.eq_of_beq_eq_true hb; exact Zi6 Tryd.func81 (by kernel_rfl) (by kernel_rfl) (by kernel_rfl) (by kernel_rfl)
  rcases ZaW h with ⟨hb, rfl⟩ | h
  · obtain rfl := Nat.eq_of_beq_eq_true hb; exact itoa_does
  rcases ZaW h with ⟨hb, rfl⟩ | h
  · obtain rfl := Nat.eq_of_beq_eq_true hb; exact join_does
  rcases ZaW h with ⟨hb, rfl⟩ | h
  · obtain rfl := Nat.eq_of_beq_eq_true hb; exact repeat_does
  rcases ZaW h with ⟨hb, rfl⟩ | h
  · obtain rfl := Nat.eq_of_beq_eq_true hb; exact ZmI
  rcases ZaW h with ⟨hb, rfl⟩ | h
  · obtain rfl := Nat.eq_of_beq_eq_true hb; exact cut_does
  rcases ZaW h with ⟨hb, rfl⟩ | h
  · obtain rfl := Nat.eq_of_beq_eq_true hb; exact split_does
  rcases ZaW h with ⟨hb, rfl⟩ | h
  · obtain rfl := Nat.eq_of_beq_eq_true hb; exact num_does
  cases h
noncomputable def ZgQ : FuncId → Option Ext := Zif ZjV hp0
theorem Zig : Fit Tryd.prog ZgQ := ZnA Zgl ZmM
noncomputable def hp1 : FuncId → Option (Array Value → St → Out) := fun f =>
  bif Nat.beq f 30 then some (ZeB Tryd.prog ZgQ 20000 30) else
   hp0 f
theorem ZoA : ZhH hp1 := by
  intro f g h
  unfold hp1 at h
  rcases ZaW h with ⟨hb, rfl⟩ | h
  · obtain rfl := Nat.eq_of_beq_eq_true hb; exact Zh6 Zig Tryd.func30 rfl
  exact ZmM f g h
noncomputable def ZlY (sp : FuncId → Option (List Value → Option Value)) : FuncId → Option Ext := Zif sp hp1
theorem ZnB {sp : FuncId → Option (List Value → Option Value)} (hsp : ZhG sp) : Fit Tryd.prog (ZlY sp) := ZnA hsp ZoA
noncomputable def ext : FuncId → Option Ext := ZlY ZjV
theorem fit : Fit Tryd.prog ext := ZnB Zgl
def Zih (e : FuncId → Option Ext) (tc : FuncId → Bool) : FuncId → Option Ext := fun f => bif tc f then some (.tc (ZT Tryd.prog f)) else e f
theorem ZnC {e : FuncId → Option Ext} {tc : FuncId → Bool} (F : Fit Tryd.prog e) (hb : ∀ f, tc f = true → ∃ (fn : Func) (c : Code), Tryd.prog.funcs[f]? = some fn ∧ fn.body = some c) : Fit Tryd.prog (Zih e tc) := by
  have cs : ∀ {f : Nat} {x : Ext}, Zih e tc f = some x → (tc f = true ∧ x = .tc (ZT Tryd.prog f)) ∨ e f = some x := fun {f x} h => by
    unfold Zih at h
    cases ht : tc f with
    | true => rw [ht] at h; injection h with h; exact .inl ⟨rfl, h.symm⟩
    | false => rw [ht] at h; exact .inr h
  refine ⟨F.mixed, F.go, fun f g hg => ?_, fun f g hg => ?_, fun f S hS => ?_, fun f n hn => ?_, fun f kk x hx => ?_⟩
  · rcases cs hg with ⟨_, h⟩ | h
    · cases h
    · exact F.fn f g h
  · rcases cs hg with ⟨_, h⟩ | h
    · cases h
    · exact F.hp f g h
  · rcases cs hS with ⟨ht, h⟩ | h
    · injection h with h; subst h; exact ⟨hb f ht, fun _ _ _ _ _ _ h => h⟩
    · exact F.tc f S h
  · rcases cs hn with ⟨_, h⟩ | h
    · cases h
    · exact F.mark f n h
  · rcases cs hx with ⟨_, h⟩ | h
    · cases h
    · exact F.ext f kk x h
def out (r : Out) : Option Value := match r with
  | some (v, s) => match s.ob with
    | [] => bif ZI v && Nat.ble s.n 1000000000 then some v else none
    | _ => none
  | none => none
end Ev
end Go.Proofs.YtlbbiflodemagaaDoor
/- Arguments that hold no address: which cells they have. -/
namespace Go.Proofs.YtlbbiflodemagaaDoor
open Go.ChangeShapes Go.WideShapes Go.ChangeAt Go.RowKit
namespace Ev
section
variable {P : Program} {w : World} {r : Reach} {base : Nat}
theorem ZlZ {u : TypeId} {k : IntKind} {c : Value} (hu : P.underlying u = some (.int k)) (h : Cell.okWide P w r base u c) : ∃ n, c = .int k n ∧ k.has n := by
 unfold Cell.okWide Cell.ok at h
 rw [hu] at h
 cases c <;> simp at h
 obtain ⟨rfl, h⟩ := h
 exact ⟨_, rfl, h⟩
theorem Zma {u : TypeId} {c : Value} (hu : P.underlying u = some .string) (h : Cell.okWide P w r base u c) : ∃ b, c = .string b := by
 unfold Cell.okWide Cell.ok at h
 rw [hu] at h
 cases c <;> simp at h
 exact ⟨_, rfl⟩
theorem ZhI {t : TypeId} {v : Value} (hu : (match P.underlying t with | some (.struct _) | some (.array _ _) => true | _ => false) = false) (h : Value.okWide P w r base t v) : Cell.okWide P w r base t v := by
 unfold Value.okWide at h
 split at h
 ·rename_i h1; rw [h1] at hu; cases hu
 ·rename_i h1; rw [h1] at hu; cases hu
 ·exact h
def ZnR : Nat → List (Nat × Bool) → List (Option Bool)
 | _, [] => []
 | n, (i, b) :: l => List.replicate (i - n) none ++ (some b :: ZnR (i + 1) l)
def ZnS : Nat → List (Nat × Int) → List (Option Int)
 | _, [] => []
 | n, (i, b) :: l => List.replicate (i - n) none ++ (some b :: ZnS (i + 1) l)
def Zjg {α : Type} : Nat → List (Nat × α) → List (Option α)
 | _, [] => []
 | n, (i, b) :: l => List.replicate (i - n) none ++ (some b :: Zjg (i + 1) l)
def ZbV (b : List (Nat × Bool)) (v : List (Nat × Int)) (x : List (Nat × Nat)) (l : List (Nat × List Cell)) (w : List (Nat × Zce)) : Orc := ⟨ZnR 0 b, ZnS 0 v, Zjg 0 x, Zjg 0 l, Zjg 0 w⟩
theorem Zag : ∀ p ∈ ([] : List (Bool × Bool)), p.1 = p.2 := by simp
theorem Zf {a b : Bool} {l : List (Bool × Bool)} (h : a = b) (hl : ∀ q ∈ l, q.1 = q.2) : ∀ q ∈ (a, b) :: l, q.1 = q.2 := by
 intro q hq
 rcases List.mem_cons.1 hq with rfl | hq
 ·exact h
 ·exact hl q hq
theorem ZoB {x : Int} (h : -9223372036854775808 ≤ x ∧ x < 9223372036854775808) : IntKind.i64.wrap x = x := by
 rw [IntKind.wrap_i64]
 omega
theorem ZoC {b : Int} (h : 0 ≤ b) : b = Int.ofNat b.toNat := (Int.toNat_of_nonneg h).symm
theorem ZoD {n m : Nat} (h : n < m) : Nat.blt n m = true := Nat.ble_eq_true_of_le h
end
end Ev
end Go.Proofs.YtlbbiflodemagaaDoor
/- How runs of functions with loops are written: what is looked at of a stop, and rows of numbers. -/
namespace Go.Proofs.YtlbbiflodemagaaDoor
open Go.RowKit
namespace Ev
/-! ### Where a loop stands -/
def Zca : List Nat → Code → List Zak → Code × List Zak
  | [], .loop a, K => (a, K)
  | 0 :: p, .seq a b, K => Zca p a (.seq b :: K)
  | 1 :: p, .seq _ b, K => Zca p b K
  | 2 :: p, .scope a, K => Zca p a (.scp :: K)
  | 3 :: p, .block i a, K => Zca p a (.blk i :: K)
  | 4 :: p, .cond _ a _, K => Zca p a K
  | 5 :: p, .cond _ _ b, K => Zca p b K
  | (n + 6) :: p, .loop a, K => Zca p a (.rnd n :: K)
  | _, _, K => (.skip, K)
def Zec (fn : Func) : Code := match fn.body with | some c => c | none => .skip
noncomputable section
def ZhJ (live : List Nat) (r : Option Stop) : Option (Value × List (Option AObj) × List (Bool × Bool)) :=
  match r with
  | some (.fin u s) => bif Nat.ble s.n 1000000000 then some (u, live.map s.h.get, s.ob) else none
  | _ => none
end
theorem Zg8 {live : List Nat} {r : Option Stop} {u : Value} {bl : List (Option AObj)} {ob : List (Bool × Bool)} (h : ZhJ live r = some (u, bl, ob)) : ∃ s, r = some (.fin u s) ∧ live.map s.h.get = bl ∧ s.ob = ob ∧ s.n ≤ far := by
  unfold ZhJ at h
  split at h
  · rename_i u' s
    obtain ⟨hn, h⟩ := Zc h
    injection h with h
    simp only [Prod.mk.injEq] at h
    obtain ⟨rfl, rfl, rfl⟩ := h
    exact ⟨s, rfl, rfl, rfl, Nat.le_of_ble_eq_true hn⟩
  · cases h
def ZcK (ρ : Nat → Nat) : AObj → AObj → Prop
  | .ro O, .ro O' => O = O'
  | .ro O true, .ro O' true => O = O'
  | .cells c t, .cells c' t' => t = t' ∧ (∃ r, c.map (Z2 ρ 1) = c' ++ r) ∧ Zg (Zw 1) c = true
  | .cells c t true, .cells c' t' true => t = t' ∧ c.map (Z2 ρ 1) = c' ∧ Zg (Zw 1) c = true
  | _, _ => False
def Za8 (ρ : Nat → Nat) : List (Option AObj) → List (Option AObj) → Prop
  | _, [] => True
  | some o :: bl, some p :: l => ZcK ρ o p ∧ Za8 ρ bl l
  | _ :: bl, none :: l => Za8 ρ bl l
  | _, _ => False
def Zd2 (ρ : Nat → Nat) : List (Option Value) → List (Nat × Value) → Prop
  | _, [] => True
  | some u :: tv, x :: l => (x.2 = Z2 ρ 3 u ∧ Zw 3 u = true) ∧ Zd2 ρ tv l
  | _, _ => False
theorem Zcp {ρ : Nat → Nat} {h : AH} : ∀ {live : List Nat} {l : List (Option AObj)}, Za8 ρ (live.map h) l → ∀ j o, lkO l j = some o → ∃ k, live[j]? = some k ∧ match o with
      | .ro O m => h k = some (.ro O m)
      | .cells c t q => ∃ c' r, h k = some (.cells c' t q) ∧ c'.map (Z2 ρ 1) = c ++ r ∧ (q = true → r = []) ∧ Zg (Zw 1) c' = true
  | live, [], _, j, o, hj => by simp [lkO] at hj
  | [], x :: l, hb, j, o, hj => by cases x <;> exact hb.elim
  | k :: live, none :: l, hb, j, o, hj => by
    have hb' : Za8 ρ (live.map h) l := by
      simp only [List.map_cons] at hb
      cases hk : h k <;> rw [hk] at hb <;> exact hb
    cases j with
    | zero => simp [lkO] at hj
    | succ j => obtain ⟨k', q1, q2⟩ := Zcp hb' j o (by simpa [lkO] using hj); exact ⟨k', by simpa using q1, q2⟩
  | k :: live, some p :: l, hb, j, o, hj => by
    simp only [List.map_cons] at hb
    cases hk : h k with
    | none => rw [hk] at hb; exact hb.elim
    | some o1 =>
      rw [hk] at hb
      cases j with
      | zero =>
        have : p = o := by simpa [lkO] using hj
        subst this
        refine ⟨k, rfl, ?_⟩
        have h1 := hb.1
        cases o1 with
        | cells c1 t1 q1 =>
          cases p with
          | cells c2 t2 q2 =>
            cases q1 <;> cases q2
            · simp only [ZcK] at h1; obtain ⟨rfl, ⟨r, hr⟩, hs⟩ := h1; exact ⟨_, r, hk, hr, (fun e => by cases e), hs⟩
            · exact h1.elim
            · exact h1.elim
            · simp only [ZcK] at h1; obtain ⟨rfl, hr, hs⟩ := h1; exact ⟨_, [], hk, by rw [hr, List.append_nil], fun _ => rfl, hs⟩
          | ro O2 m2 => cases q1 <;> cases m2 <;> exact h1.elim
        | ro O1 m1 =>
          cases p with
          | cells c2 t2 q2 => cases m1 <;> cases q2 <;> exact h1.elim
          | ro O2 m2 =>
            cases m1 <;> cases m2
            · obtain rfl : O1 = O2 := h1; exact hk
            · exact h1.elim
            · exact h1.elim
            · obtain rfl : O1 = O2 := h1; exact hk
      | succ j => obtain ⟨k', q1, q2⟩ := Zcp hb.2 j o (by simpa [lkO] using hj); exact ⟨k', by simpa using q1, q2⟩
theorem ZjW {ρ : Nat → Nat} {T : Tr Value} : ∀ {l : List (Nat × Value)}, Zd2 ρ ((l.map (·.1)).map T.get) l → ∀ t v, Zx t l = some v → v = Z2 ρ 3 ((T.get t).getD undef) ∧ Zw 3 ((T.get t).getD undef) = true
  | [], _, t, v, h => by cases h
  | x :: l, ht, t, v, h => by
    simp only [List.map_cons] at ht
    cases hx : T.get x.1 with
    | none => rw [hx] at ht; exact ht.elim
    | some u =>
      rw [hx] at ht
      unfold Zx at h
      cases hb : Nat.beq x.1 t with
      | true =>
        rw [hb] at h
        injection h with h
        obtain rfl := Nat.eq_of_beq_eq_true hb
        subst h
        rw [hx]
        exact ht.1
      | false => rw [hb] at h; exact ZjW ht.2 t v h
section
variable {P : Program} {ext : FuncId → Option Ext}
end
/-! ### Rows of numbers -/
theorem wrap_i64 {x : Int} (h : -9223372036854775808 ≤ x ∧ x ≤ 9223372036854775807) : IntKind.i64.wrap x = x := ZoB (by omega)
theorem ZcL {k o o' n n' c c' : Nat} (h1 : o = o') (h2 : n = n') (h3 : c = c') : Value.slice (some ⟨k, o, none⟩) n c = .slice (some ⟨k, o', none⟩) n' c' := by rw [h1, h2, h3]
theorem Zq {α : Type} {a b : α} {l r : List α} (h : a = b) (t : l = r) : a :: l = b :: r := by rw [h, t]
/-! ### Rows of bools -/
/-! ### Rows of the caller's -/
end Ev
end Go.Proofs.YtlbbiflodemagaaDoor
/- Calls that are told, from what is known of a function. -/
namespace Go.Proofs.YtlbbiflodemagaaDoor
open Go.RowKit
namespace Ev
section
variable {P : Program} {ext : FuncId → Option Ext}
def preL (κ : List Nat) (n : Nat) (pre : List AObj) : List (Nat × AObj) := κ.zip (pre.map (ZdM (kap κ n)))
def ZnT (κ : List Nat) (n : Nat) (ch : List Nat) (post : List (Option AObj)) : List (Nat × Option AObj) := ch.map fun j => (kap κ n j, (lkO post j).map (ZdM (kap κ n)))
def ZgR (m : Nat) : List AObj → Prop
 | [] => True
 | o :: l => Ze8 m o = true ∧ ZgR m l
def Zed (m : Nat) : List (Option AObj) → Prop
 | [] => True
 | some o :: l => Ze8 m o = true ∧ Zed m l
 | none :: l => Zed m l
theorem ZiD {m : Nat} : ∀ {l : List AObj}, ZgR m l → ∀ o ∈ l, Ze8 m o = true
 | x :: l, h, o, ho => by
  rcases List.mem_cons.1 ho with rfl | ho
  ·exact h.1
  ·exact ZiD h.2 o ho
theorem Zfd {m : Nat} : ∀ {l : List (Option AObj)}, Zed m l → ∀ o, some o ∈ l → Ze8 m o = true
 | some x :: l, h, o, ho => by
  rcases List.mem_cons.1 ho with e | ho
  ·injection e with e; subst e; exact h.1
  ·exact Zfd h.2 o ho
 | none :: l, h, o, ho => by
  rcases List.mem_cons.1 ho with e | ho
  ·cases e
  ·exact Zfd (l := l) h o ho
def Zmb (ch : List Nat) : Nat → List AObj → List (Option AObj) → Prop
 | _, _, [] => True
 | j, o :: l, p :: r => (j ∈ ch ∨ p = some o) ∧ Zmb ch (j + 1) l r
 | j, [], _ :: r => j ∈ ch ∧ Zmb ch (j + 1) [] r
theorem Zii {ch : List Nat} : ∀ {l : List AObj} {r : List (Option AObj)} {j : Nat}, Zmb ch j l r → ∀ i, i < r.length → j + i ∈ ch ∨ (i < l.length ∧ r[i]? = some l[i]?)
 | o :: l, p :: r, j, h, 0, _ => by
  rcases h.1 with h | h
  ·exact .inl h
  ·exact .inr ⟨by simp, by simp [h]⟩
 | o :: l, p :: r, j, h, i + 1, hi => by
  rcases Zii h.2 i (by simpa using hi) with q | ⟨q1, q2⟩
  ·exact .inl (by rwa [show j + (i + 1) = j + 1 + i by omega])
  ·exact .inr ⟨by simpa using q1, by simpa using q2⟩
 | [], p :: r, j, h, 0, _ => .inl h.1
 | [], p :: r, j, h, i + 1, hi => by
  rcases Zii h.2 i (by simpa using hi) with q | ⟨q1, q2⟩
  ·exact .inl (by rwa [show j + (i + 1) = j + 1 + i by omega])
  ·simp at q1
theorem ZjX {α : Type} {k : Nat} {x : α} : ∀ {ks : List Nat} {l : List α} {j : Nat}, ks.Nodup → ks[j]? = some k → l[j]? = some x → Zx k (ks.zip l) = some x
 | a :: ks, b :: l, 0, _, h1, h2 => by
  simp at h1 h2
  subst h1 h2
  simp [Zx]
 | a :: ks, b :: l, j + 1, hn, h1, h2 => by
  have hm : k ∈ ks := List.mem_of_getElem? (by simpa using h1)
  have hne : a ≠ k := fun e => by subst e; exact (List.nodup_cons.1 hn).1 hm
  show Zx k ((a, b) :: ks.zip l) = _
  unfold Zx
  rw [Zcw hne]
  exact ZjX (List.nodup_cons.1 hn).2 (by simpa using h1) (by simpa using h2)
 | [], _, j, _, h1, _ => by simp at h1
 | a :: ks, [], j, _, _, h2 => by simp at h2
theorem ZjY {f : Nat → Nat} {g : Nat → Option AObj} (hf : ∀ i j, f i = f j → i = j) (j : Nat) : ∀ ch : List Nat, Zx (f j) (ch.map fun i => (f i, g i)) = if j ∈ ch then some (g j) else none
 | [] => rfl
 | a :: ch => by
  show Zx (f j) ((f a, g a) :: ch.map fun i => (f i, g i)) = _
  unfold Zx
  by_cases h : a = j
  ·subst h; rw [Zcx rfl]; simp
  ·rw [Zcw (fun e => h (hf _ _ e)), cond_false, ZjY hf j ch]
   simp [show ¬ j = a from fun e => h e.symm]
theorem LSpec.callL {f : FuncId} {A : Array Value} {pre : List AObj} {v : Value} {post : List (Option AObj)} (h : LSpec P f A pre v post) (κ : List Nat) (n : Nat) (ch : List Nat) (hκ : κ.length = pre.length) (hnd : κ.Nodup) (hlt : ∀ k ∈ κ, k < n) (hle : pre.length ≤ post.length) (hch : ∀ j ∈ ch, j < post.length)
  (hA : Zg (ZQ pre.length 3) A.toList = true) (hpre : ZgR pre.length pre) (hv : (ZQ post.length 3 v || Zaq v) = true) (hpost : Zed post.length post) (hk : Zmb ch 0 pre post)
  {A' : Array Value} {pre' : List (Nat × AObj)} {v' : Value} {post' : List (Nat × Option AObj)} {dn : Nat} (eA : A' = Zcz (Z2 (kap κ n) 3) A) (ev : v' = Z2 (kap κ n) 3 v) (edn : pre.length + dn = post.length) (ep : pre' = preL κ n pre) (eq : post' = ZnT κ n ch post) : ZT P f A' pre' v' post' n dn := by
 have kl : ∀ j, j < pre.length → κ[j]? = some (kap κ n j) := fun j hj => Zh1 (by omega)
 have kn : ∀ j, j < pre.length → kap κ n j < n := fun j hj => hlt _ (List.mem_of_getElem? (kl j hj))
 have kg : ∀ j, pre.length ≤ j → kap κ n j = n + (j - pre.length) := fun j hj => by rw [← hκ]; exact ZmC (by omega)
 have kinj : ∀ i j, kap κ n i = kap κ n j → i = j := fun i j hij => by
  rcases Nat.lt_or_ge i pre.length with h1 | h1 <;> rcases Nat.lt_or_ge j pre.length with h2 | h2
  ·have a := kl i h1
   have b := kl j h2
   rw [hij, ← b] at a
   exact (List.getElem?_inj (by omega) hnd).1 a
  ·have := kn i h1; rw [hij, kg j h2] at this; omega
  ·have := kn j h2; rw [← hij, kg i h1] at this; omega
  ·rw [kg i h1, kg j h2] at hij; omega
 have lp : ∀ j o, pre[j]? = some o → Zx (kap κ n j) pre' = some (ZdM (kap κ n) o) := fun j o ho => by
  subst ep
  have hj : j < pre.length := (List.getElem?_eq_some_iff.1 ho).1
  exact ZjX hnd (kl j hj) (by rw [List.getElem?_map, ho]; rfl)
 have ip : ∀ k o, Zx k pre' = some o → ∃ j, j < pre.length ∧ k = kap κ n j := fun k o ho => by
  subst ep
  obtain ⟨j, hj1, hj2⟩ := List.getElem_of_mem (List.of_mem_zip (ZdL ho)).1
  have hj : j < pre.length := by omega
  refine ⟨j, hj, ?_⟩
  have := kl j hj
  rw [List.getElem?_eq_getElem hj1, hj2] at this
  exact Option.some.inj this
 have lq : ∀ j, Zx (kap κ n j) post' = if j ∈ ch then some ((lkO post j).map (ZdM (kap κ n))) else none := fun j => by
  subst eq
  exact ZjY (g := fun j => (lkO post j).map (ZdM (kap κ n))) kinj j ch
 refine h.call κ n hκ hnd hlt hle hA (ZiD hpre) hv (Zfd hpost) eA ev edn lp ip (fun j hj => ?_) (fun k o ho => ?_)
 ·unfold behind
  rw [lq j]
  rcases Zii hk j hj with hc | ⟨h1, h2⟩
  ·rw [Nat.zero_add] at hc
   rw [if_pos hc]
  ·by_cases hc : j ∈ ch
   ·rw [if_pos hc]
   ·rw [if_neg hc]
    have ho : pre[j]? = some pre[j] := List.getElem?_eq_getElem h1
    show Zx (kap κ n j) pre' = _
    rw [lp j _ ho]
    simp [lkO, h2, ho]
 ·unfold behind at ho
  split at ho
  ·rename_i o' hl
   subst eq
   have := ZdL hl
   unfold ZnT at this
   obtain ⟨j, hj, he⟩ := List.mem_map.1 this
   injection he with h1 h2
   exact ⟨j, hch j hj, h1.symm⟩
  ·obtain ⟨j, hj, hk⟩ := ip k o ho
   exact ⟨j, by omega, hk⟩
end
theorem Zau {α β : Type} {a a' : α} {b b' : β} (h : a = a') (k : b = b') : (a, b) = (a', b') := by rw [h, k]
theorem Zd3 {α : Type} {a a' : α} (h : a = a') : some a = some a' := by rw [h]
theorem ZcM {l r : List Value} (h : l = r) : l.toArray = r.toArray := by rw [h]
end Ev
end Go.Proofs.YtlbbiflodemagaaDoor
/- Functions of many loops: one behind the other, one in another. -/
namespace Go.Proofs.YtlbbiflodemagaaDoor
open Go.RowKit
namespace Ev
section
variable {P : Program} {ext : FuncId → Option Ext}
variable {fn : Func} {pre : List AObj} {v : Value} {po : List (Option AObj)} {X : Type} {m i : Nat} {L : X → List (Nat × Value)} {H : X → List AObj} {μ : X → Nat} {bd : X → List Nat} {Gb : List Nat → Ren → World → (Nat → Act → World → Prop) → Prop} {x : X} {c : Code} {K : List Zak} {T0 : Tr Value} {fu : Nat} {orc : Orc} {live : List Nat} {bl : List (Option AObj)} {ob : List (Bool × Bool)}
end
/-! ### A law -/
theorem ZoE (P : Program) {w : World} (ht : TabW w) : Emb P (ιMk w) (lk []) w := by
 rw [show lk [] = fun _ => none from funext fun k => by simp [lk]]
 exact Zod P ht
theorem ZnD {v : Value} (h : ZI v = true) : Zaq v = false := by
 cases hz : Zaq v with
 | false => rfl
 | true =>
  unfold Zaq at hz
  split at hz
  ·simp only [ZI, Z6, atom] at h
   simp [h] at hz
  ·cases hz
theorem ZmN {P : Program} {f : FuncId} {A : Array Value} {post : List (Option AObj)} {v : Value} (h : LSpec P f A [] v post) {w : World} {args' : Array Value} (ha : VRs (ιMk w) A args') (hv : ZI v = true) (ht : TabW w := by first | assumption | (intro x hx; cases hx; done)) : Calls P f args' w (Ret v w) := by
 refine (h (ιMk w) w args' (fun k hk => ?_) ha (ZoE P ht)).mono ?_
 ·cases hq : ιMk w k with
  | none => exact absurd hq hk
  | some q =>
   obtain ⟨b, base, id, rfl, _⟩ := ιMk_inv hq
   exact .inr (ZhY b base id)
 ·rintro e w' (⟨v', ι', rfl, hS, _, hvr⟩ | ⟨ht, _⟩)
  rotate_left
  ·rw [ZnD hv] at ht; cases ht
  have := hvr.eq_of_free hv
  subst this
  exact ⟨rfl, hS.os, hS.tape, hS.output, hS.size, fun b hb => hS.frame b hb fun k c hk => by simp [lk, isC] at hk⟩
end Ev
end Go.Proofs.YtlbbiflodemagaaDoor
/- Arguments that are slices of structs of ints, opened, over any program. -/
namespace Go.Proofs.YtlbbiflodemagaaDoor
open Go.ChangeShapes Go.WideShapes Go.ChangeAt Go.RowKit Go.Deep
section
variable {H : Type} {enc : TypeId × Value → H} {P : Program} {w : World}

end
end Go.Proofs.YtlbbiflodemagaaDoor
/- Arguments that are rows of numbers: blocks of the caller's, that are read alone. -/
namespace Go.Proofs.YtlbbiflodemagaaDoor
open Go.ChangeShapes Go.WideShapes Go.ChangeAt Go.RowKit
namespace Ev
section
variable {P : Program} {w : World}
end
end Ev
end Go.Proofs.YtlbbiflodemagaaDoor
/- The runner, with places to stop at: where a way on of a given depth begins, so many of them left out. -/
namespace Go.Proofs.YtlbbiflodemagaaDoor
open Go.RowKit
namespace Ev
inductive StopC where
 | fin (v : Value) (s : St)
 | head (a : Code) (K : List Zak) (T : Tr Value) (s : St)
 | next (i : Nat) (T : Tr Value) (s : St)
 | cut (b : Code) (K : List Zak) (T : Tr Value) (s : St)
 | thr (u : Value) (s : St)
noncomputable section
def StopC.s : StopC → St
 | .fin _ s => s
 | .head _ _ _ s => s
 | .next _ _ s => s
 | .cut _ _ _ s => s
 | .thr _ s => s
def ZjZ (s : St) : Option Value → Option StopC
 | some v => some (.fin v s)
 | none => none
def Zka : Option (Value × Tr Value × St) → Option StopC
 | some (u, _, s) => bif Zaq u then some (.thr u s) else none
 | none => none
def ZmO (P : Program) (fn : Func) (e : Ex) (T : Tr Value) (s : St) : Option StopC :=
 match e with
 | .exit _ => none
 | .normal => ZjZ s (ZlK P fn T s)
 | .ret => ZjZ s (ZlK P fn T s)
mutual
def ZaO (P : Program) (ext : FuncId → Option Ext) (fn : Func) (nt : Nat) (cd : Nat) : Nat → Nat → Code → List Zak → Tr Value → St → Option StopC
 | 0, _, _, _, _, _ => none
 | fu + 1, cm, c, K, T, s => match c with
  | .seq a b => ZaO P ext fn nt cd fu cm a (.seq b :: K) T s
  | .scope a => ZaO P ext fn nt cd fu cm a (.scp :: K) T s
  | .block id a => ZaO P ext fn nt cd fu cm a (.blk id :: K) T s
  | .cond x a b => match opnd T x with
   | .bool t => match t with
    | true => ZaO P ext fn nt cd fu cm a K T s
    | false => ZaO P ext fn nt cd fu cm b K T s
   | _ => none
  | .loop a => some (.head a K T s)
  | c => match Zn P ext nt fu c T s with
   | some (e, T', s') => Zac P ext fn nt cd fu cm K e T' s'
   | none => Zka (Z8 P ext nt (ZaF P ext fu) fu c T s)
termination_by structural fu _ _ _ _ _ => fu
def Zac (P : Program) (ext : FuncId → Option Ext) (fn : Func) (nt : Nat) (cd : Nat) : Nat → Nat → List Zak → Ex → Tr Value → St → Option StopC
 | 0, _, _, _, _, _ => none
 | fu + 1, cm, K, e, T, s => match K with
  | [] => ZmO P fn e T s
  | .seq b :: K => match e with
   | .normal => match Nat.beq K.length cd with
    | false => ZaO P ext fn nt cd fu cm b K T s
    | true => match cm with
     | 0 => some (.cut b K T s)
     | m + 1 => ZaO P ext fn nt cd fu m b K T s
   | .exit i => Zac P ext fn nt cd fu cm K (.exit i) T s
   | .ret => Zac P ext fn nt cd fu cm K .ret T s
  | .blk id :: K => match e with
   | .exit i => bif Nat.beq i id then Zac P ext fn nt cd fu cm K .normal T s else Zac P ext fn nt cd fu cm K (.exit i) T s
   | .normal => Zac P ext fn nt cd fu cm K .normal T s
   | .ret => Zac P ext fn nt cd fu cm K .ret T s
  | .scp :: K => Zac P ext fn nt cd fu cm K e T s
  | .rnd i :: K => match e with
   | .normal => some (.next i T s)
   | .exit j => Zac P ext fn nt cd fu cm K (.exit j) T s
   | .ret => Zac P ext fn nt cd fu cm K .ret T s
termination_by structural fu _ _ _ _ _ => fu
end
end
section
variable {P : Program} {ext : FuncId → Option Ext}
theorem Zkb {s : St} {o : Option Value} {st : StopC} (h : ZjZ s o = some st) : ∃ v, st = .fin v s ∧ o = some v := by
 cases o with
 | none => cases h
 | some v => injection h with h; exact ⟨v, h.symm, rfl⟩
theorem Zkc {fn : Func} {e : Ex} {T : Tr Value} {s : St} {st : StopC} (h : ZmO P fn e T s = some st) : ∃ v, st = .fin v s ∧ (match e with | .exit _ => False | _ => True) ∧ (match Z7 P T s fn.results.toList with | some [v] => some v | some vs => some (.tuple vs.toArray) | none => none) = some v := by
 cases e with
 | exit i => cases h
 | normal => obtain ⟨v, h1, h2⟩ := Zkb h; exact ⟨v, h1, trivial, h2⟩
 | ret => obtain ⟨v, h1, h2⟩ := Zkb h; exact ⟨v, h1, trivial, h2⟩
theorem ZiE {o : Option (Value × Tr Value × St)} {st : StopC} (h : Zka o = some st) : ∃ u T s, o = some (u, T, s) ∧ Zaq u = true ∧ st = .thr u s := by
 unfold Zka at h
 split at h
 ·rename_i u T s
  obtain ⟨h1, h2⟩ := Zc h
  injection h2 with h2
  exact ⟨u, T, s, rfl, h1, h2.symm⟩
 ·cases h
theorem Zkd (F : Fit P ext) {fn : Func} {nt cd : Nat} : ∀ fu : Nat, (∀ cm c K T s st, ZaO P ext fn nt cd fu cm c K T s = some st → Up s st.s) ∧ (∀ cm K e T s st, Zac P ext fn nt cd fu cm K e T s = some st → Up s st.s) := by
 intro fu
 induction fu with
 | zero => exact ⟨fun _ _ _ _ _ _ h => by simp [ZaO] at h, fun _ _ _ _ _ _ h => by simp [Zac] at h⟩
 | succ fu ih =>
  obtain ⟨ihT, ihB⟩ := ih
  have other : ∀ cm c K T s st, (match Zn P ext nt fu c T s with | some (e, T', s') => Zac P ext fn nt cd fu cm K e T' s' | none => Zka (Z8 P ext nt (ZaF P ext fu) fu c T s)) = some st → Up s st.s := fun cm c K T s st h => by
   split at h
   ·exact ((ZD (P := P) (ext := ext) (fun f g hg => (F.hp f g hg).up) fu).1 _ _ _ _ _ _ _ (by assumption)).trans (ihB _ _ _ _ _ _ h)
   ·obtain ⟨u, T', s', hx, _, rfl⟩ := ZiE h
    exact ZcG F (Zge F fu) fu _ _ _ _ _ _ hx
  refine ⟨fun cm c K T s st h => ?_, fun cm K e T s st h => ?_⟩
  ·cases c <;> simp only [ZaO] at h
   case seq a b => exact ihT _ _ _ _ _ _ h
   case scope a => exact ihT _ _ _ _ _ _ h
   case block id a => exact ihT _ _ _ _ _ _ h
   case cond x a b =>
    split at h
    ·split at h
     ·exact ihT _ _ _ _ _ _ h
     ·exact ihT _ _ _ _ _ _ h
    ·cases h
   case loop a => injection h with h; subst h; exact Up.refl _
   all_goals exact other _ _ _ _ _ _ h
  ·cases K with
   | nil => simp only [Zac] at h; obtain ⟨v, rfl, _⟩ := Zkc h; exact Up.refl _
   | cons k K =>
    cases k <;> simp only [Zac] at h
    ·cases e <;> simp only at h
     ·split at h
      ·exact ihT _ _ _ _ _ _ h
      ·split at h
       ·injection h with h; subst h; exact Up.refl _
       ·exact ihT _ _ _ _ _ _ h
     ·exact ihB _ _ _ _ _ _ h
     ·exact ihB _ _ _ _ _ _ h
    ·cases e <;> simp only at h
     ·exact ihB _ _ _ _ _ _ h
     ·rename_i id i
      cases hb : Nat.beq i id <;> rw [hb] at h <;> exact ihB _ _ _ _ _ _ h
     ·exact ihB _ _ _ _ _ _ h
    ·exact ihB _ _ _ _ _ _ h
    ·cases e <;> simp only at h
     ·injection h with h; subst h; exact Up.refl _
     ·exact ihB _ _ _ _ _ _ h
     ·exact ihB _ _ _ _ _ _ h
def ZfN (P : Program) (fn : Func) (R : Ending → World → Prop) (Nx : Nat → Act → World → Prop) (nt : Nat) (ι : Ren) (a : Act) (w : World) : StopC → Prop
 | .fin v _ => ∀ v', VR ι v v' → R (.returned v') w
 | .head b K T _ => TR ι nt [] T a → (Code.loop b).wp P (post P fn R Nx K) a w
 | .next i T _ => TR ι nt [] T a → Nx i a w
 | .cut b K T _ => TR ι nt [] T a → b.wp P (post P fn R Nx K) a w
 | .thr u _ => Zaq u = true → R (.panicked (Zbb u)) w
theorem Zc4 {fn : Func} {R : Ending → World → Prop} {Nx : Nat → Act → World → Prop} {ch : List PanicEntry} {a : Act} {w : World} (ha : a.defers = []) (h : R (.panicked ch) w) : ∀ K : List Zak, post P fn R Nx K (.panic ch) a w
 | [] => ⟨ha, h⟩
 | .seq b :: K => Zc4 ha h K
 | .blk id :: K => Zc4 ha h K
 | .scp :: K => Zc4 ha h K
 | .rnd i :: K => Zc4 ha h K
theorem ZiF (F : Fit P ext) {fn : Func} {nt cd : Nat} {R : Ending → World → Prop} {Nx : Nat → Act → World → Prop} : ∀ fu : Nat,
  (∀ cm c K T s st, ZaO P ext fn nt cd fu cm c K T s = some st → (∀ p ∈ st.s.ob, p.1 = p.2) → ∀ ι a w, TR ι nt [] T a → Emb P ι s.h.get w → Fresh ι s.n st.s.n →
   (∀ ι' a' w', Step P ι s.h.get w ι' st.s.h.get w' → Dom ι ι' s.n st.s.n → ZfN P fn R Nx nt ι' a' w' st) → c.wp P (post P fn R Nx K) a w) ∧
  (∀ cm K e T s st, Zac P ext fn nt cd fu cm K e T s = some st → (∀ p ∈ st.s.ob, p.1 = p.2) → ∀ ι a w, TR ι nt [] T a → Emb P ι s.h.get w → Fresh ι s.n st.s.n →
   (∀ ι' a' w', Step P ι s.h.get w ι' st.s.h.get w' → Dom ι ι' s.n st.s.n → ZfN P fn R Nx nt ι' a' w' st) → post P fn R Nx K e.out a w) := by
 intro fu
 induction fu with
 | zero => exact ⟨fun _ _ _ _ _ _ h => by simp [ZaO] at h, fun _ _ _ _ _ _ h => by simp [Zac] at h⟩
 | succ fu ih =>
  obtain ⟨ihT, ihB⟩ := ih
  have other : ∀ cm c K T s st, (match Zn P ext nt fu c T s with | some (e, T', s') => Zac P ext fn nt cd fu cm K e T' s' | none => Zka (Z8 P ext nt (ZaF P ext fu) fu c T s)) = some st → (∀ p ∈ st.s.ob, p.1 = p.2) → ∀ ι a w, TR ι nt [] T a → Emb P ι s.h.get w → Fresh ι s.n st.s.n →
   (∀ ι' a' w', Step P ι s.h.get w ι' st.s.h.get w' → Dom ι ι' s.n st.s.n → ZfN P fn R Nx nt ι' a' w' st) → c.wp P (post P fn R Nx K) a w := fun cm c K T s st h ho ι a w hT he hf hQ => by
   split at h
   ·rename_i e T1 s1 h1
    have u1 := (ZD (P := P) (ext := ext) (fun f g hg => (F.hp f g hg).up) fu).1 _ _ _ _ _ _ _ h1
    have u2 := (Zkd F (fn := fn) (nt := nt) fu).2 _ _ _ _ _ _ h
    refine wp_mono (ZnO F h1 (Zm u2.ob ho) hT he (hf.mono (Nat.le_refl _) u2.n)) ?_
    rintro ex a1 w1 ⟨rfl, ι1, g1, g2, g3⟩
    exact ihB _ K e T1 s1 st h ho ι1 a1 w1 g3 g1.emb (hf.after g2 u1.n) fun ι' a' w' k1 k2 => hQ ι' a' w' (g1.trans k1) (g2.trans k2 u1.n u2.n)
   ·obtain ⟨u, T', s', hx, ht, rfl⟩ := ZiE h
    refine wp_mono ((Zhy F (Zge F fu) fu).1 c T s u T' s' hx ho ι [] a w hT he hf) ?_
    rintro ex a1 w1 ⟨ι1, rfl, g1, g2, g3⟩
    exact Zc4 g3.2.1 (hQ ι1 a1 w1 g1 g2 ht) K
  refine ⟨fun cm c K T s st h ho ι a w hT he hf hQ => ?_, fun cm K e T s st h ho ι a w hT he hf hQ => ?_⟩
  ·have h0 := h
   cases c <;> simp only [ZaO] at h
   case seq x y => exact wp_seq (ihT _ x (.seq y :: K) T s st h ho ι a w hT he hf hQ)
   case scope x => exact wp_scope_straight (ihT _ x (.scp :: K) T s st h ho ι a w hT he hf hQ)
   case block id x => exact wp_block (ihT _ x (.blk id :: K) T s st h ho ι a w hT he hf hQ)
   case cond x y z =>
    split at h
    ·rename_i t ht
     have hx : a.eval x = .bool t := Zax ((ht ▸ hT.opnd x : VR ι (.bool t) (ZE a x)).bool_inv)
     split at h
     ·exact wp_cond_true hx (ihT _ y K T s st h ho ι a w hT he hf hQ)
     ·exact wp_cond_false hx (ihT _ z K T s st h ho ι a w hT he hf hQ)
    ·cases h
   case loop x =>
    injection h with h
    subst h
    exact hQ ι a w (Step.refl he) Dom.refl hT
   all_goals exact other _ _ K T s st h ho ι a w hT he hf hQ
  ·cases K with
   | nil =>
    simp only [Zac] at h
    obtain ⟨v, rfl, hne, hr⟩ := Zkc h
    obtain ⟨v', hrun, hv⟩ := Zaa hT he hr
    have := hQ ι a w (Step.refl he) Dom.refl v' hv
    cases e with
    | normal => exact ⟨hT.2.1, v', hrun, this⟩
    | ret => exact ⟨hT.2.1, v', hrun, this⟩
    | exit i => exact hne.elim
   | cons k K =>
    cases k with
    | seq b =>
     simp only [Zac] at h
     cases e with
     | normal =>
      simp only at h
      split at h
      ·exact ihT _ b K T s st h ho ι a w hT he hf hQ
      ·split at h
       ·injection h with h
        subst h
        exact hQ ι a w (Step.refl he) Dom.refl hT
       ·exact ihT _ b K T s st h ho ι a w hT he hf hQ
     | exit i => exact ihB _ K (.exit i) T s st h ho ι a w hT he hf hQ
     | ret => exact ihB _ K .ret T s st h ho ι a w hT he hf hQ
    | blk id =>
     simp only [Zac] at h
     cases e with
     | normal => exact ihB _ K .normal T s st h ho ι a w hT he hf hQ
     | ret => exact ihB _ K .ret T s st h ho ι a w hT he hf hQ
     | exit i =>
      simp only at h
      show if i = id then _ else _
      cases hb : Nat.beq i id with
      | true =>
       rw [hb] at h
       rw [if_pos (Nat.eq_of_beq_eq_true hb)]
       exact ihB _ K .normal T s st h ho ι a w hT he hf hQ
      | false =>
       rw [hb] at h
       rw [if_neg (fun e => by rw [Zcx e] at hb; cases hb)]
       exact ihB _ K (.exit i) T s st h ho ι a w hT he hf hQ
    | scp =>
     simp only [Zac] at h
     have := ihB _ K e T s st h ho ι a w hT he hf hQ
     cases e <;> exact this
    | rnd i =>
     simp only [Zac] at h
     cases e with
     | normal =>
      injection h with h
      subst h
      exact hQ ι a w (Step.refl he) Dom.refl hT
     | exit j => exact ihB _ K (.exit j) T s st h ho ι a w hT he hf hQ
     | ret => exact ihB _ K .ret T s st h ho ι a w hT he hf hQ
end
noncomputable section
def Zij (live : List Nat) (r : Option StopC) : Option (Value × List (Option AObj) × List (Bool × Bool)) :=
 match r with
 | some (.fin u s) => bif Nat.ble s.n 500000000 then some (u, live.map s.h.get, s.ob) else none
 | _ => none
def ZgS (i : Nat) (live temps : List Nat) (r : Option StopC) : Option (List (Option Value) × List (Option AObj) × List (Bool × Bool)) :=
 match r with
 | some (.next j T s) => bif Nat.beq j i && Nat.ble s.n 500000000 then some (temps.map T.get, live.map s.h.get, s.ob) else none
 | _ => none
def Zfe (live temps : List Nat) (r : Option StopC) : Option ((Code × List Zak) × List (Option Value) × List (Option AObj) × List (Bool × Bool)) :=
 match r with
 | some (.head b K T s) => bif Nat.ble s.n 500000000 then some ((b, K), temps.map T.get, live.map s.h.get, s.ob) else none
 | _ => none
end
theorem Zke {live : List Nat} {r : Option StopC} {u : Value} {bl : List (Option AObj)} {ob : List (Bool × Bool)} (h : Zij live r = some (u, bl, ob)) : ∃ s, r = some (.fin u s) ∧ live.map s.h.get = bl ∧ s.ob = ob ∧ s.n ≤ 500000000 := by
 unfold Zij at h
 split at h
 ·rename_i u' s
  obtain ⟨hn, h⟩ := Zc h
  injection h with h
  simp only [Prod.mk.injEq] at h
  obtain ⟨rfl, rfl, rfl⟩ := h
  exact ⟨s, rfl, rfl, rfl, Nat.le_of_ble_eq_true hn⟩
 ·cases h
theorem ZiT {i : Nat} {live temps : List Nat} {r : Option StopC} {tv : List (Option Value)} {bl : List (Option AObj)} {ob : List (Bool × Bool)} (h : ZgS i live temps r = some (tv, bl, ob)) : ∃ T s, r = some (.next i T s) ∧ temps.map T.get = tv ∧ live.map s.h.get = bl ∧ s.ob = ob ∧ s.n ≤ 500000000 := by
 unfold ZgS at h
 split at h
 ·rename_i j T s
  obtain ⟨hn, h⟩ := Zc h
  simp only [Bool.and_eq_true] at hn
  injection h with h
  simp only [Prod.mk.injEq] at h
  obtain ⟨rfl, rfl, rfl⟩ := h
  exact ⟨T, s, by rw [Nat.eq_of_beq_eq_true hn.1], rfl, rfl, rfl, Nat.le_of_ble_eq_true hn.2⟩
 ·cases h
theorem Zfm {live temps : List Nat} {r : Option StopC} {bK : Code × List Zak} {tv : List (Option Value)} {bl : List (Option AObj)} {ob : List (Bool × Bool)} (h : Zfe live temps r = some (bK, tv, bl, ob)) : ∃ T s, r = some (.head bK.1 bK.2 T s) ∧ temps.map T.get = tv ∧ live.map s.h.get = bl ∧ s.ob = ob ∧ s.n ≤ 500000000 := by
 unfold Zfe at h
 split at h
 ·rename_i b K T s
  obtain ⟨hn, h⟩ := Zc h
  injection h with h
  simp only [Prod.mk.injEq] at h
  obtain ⟨rfl, rfl, rfl, rfl⟩ := h
  exact ⟨T, s, rfl, rfl, rfl, rfl, Nat.le_of_ble_eq_true hn⟩
 ·cases h
section
variable {P : Program} {ext : FuncId → Option Ext}
theorem ZmP (F : Fit P ext) {f : FuncId} {fn : Func} {c : Code} (hfn : P.funcs[f]? = some fn) (hb : fn.body = some c) {A : Array Value} {pre : List AObj} {v : Value} {post : List (Option AObj)} (hA : Nat.ble A.size fn.ntmps = true) {fu : Nat} {orc : Orc} {cd cm : Nat} {st : StopC}
  (hev : ZaO P ext fn fn.ntmps cd fu cm c [] (Zat 0 A.toList .nil) ⟨Zbx 0 pre, pre.length, [], orc, []⟩ = some st) (ho : ∀ p ∈ st.s.ob, p.1 = p.2) (hn : st.s.n ≤ far)
  (hto : ∀ ι0 w0, (∀ k, ι0 k ≠ none → k < pre.length ∨ ZbT k) → ∀ ι' a' w', Step P ι0 (lk pre) w0 ι' st.s.h.get w' → Dom ι0 ι' pre.length st.s.n → ZfN P fn (Fin P ι0 pre w0 v post) (fun _ _ _ => False) fn.ntmps ι' a' w' st) : LSpec P f A pre v post := by
 intro ι w args' hd ha he
 refine calls_of_wp hfn hb ?_
 have := (ZiF F (R := Fin P ι pre w v post) (Nx := fun _ _ _ => False) fu).1 cm c [] _ _ st hev ho ι _ w (Zbd ha (Nat.le_of_ble_eq_true hA)) (by show Emb P ι (Zbx 0 pre).get w; rw [ZcH]; exact he)
  ⟨hn, fun k h1 h2 => by
   cases hk : ι k with
   | none => rfl
   | some b => exact absurd (hd k (by rw [hk]; simp)) (by have h3 : pre.length ≤ k := h1; have h4 : st.s.n ≤ 1000000000 := hn; have h5 : k < st.s.n := h2; unfold ZbT; omega)⟩
  (fun ι' a' w' g1 g2 => hto ι w hd ι' a' w' (by have := g1; simp only [ZcH] at this; exact this) g2)
 exact this
end
end Ev
end Go.Proofs.YtlbbiflodemagaaDoor
/- Functions of loops as machines: states at loops' heads, and a step from each to the next one. -/
namespace Go.Proofs.YtlbbiflodemagaaDoor
open Go.RowKit
namespace Ev
def ZV : List Zak → List Nat
  | [] => []
  | .rnd i :: K => i :: ZV K
  | .seq _ :: K => ZV K
  | .blk _ :: K => ZV K
  | .scp :: K => ZV K
def Zbi {X R : Type} (step : X → Option (X ⊕ R)) : Nat → X → Option R
  | 0, _ => none
  | n + 1, x => match step x with
    | none => none
    | some (.inl y) => Zbi step n y
    | some (.inr r) => some r
def goM {X R : Type} (step : X → Option (X ⊕ R)) (n : Nat) (o : Option (X ⊕ R)) : Option R :=
  match o with
  | none => none
  | some (.inl y) => Zbi step n y
  | some (.inr r) => some r
theorem Zdb (n : Nat) (h : Nat.ble n 1000000000 = true) : n ≤ far := Nat.le_of_ble_eq_true h
theorem ZiG {P : Program} {c : Code} {Q : Exit → Act → World → Prop} : ∀ (n m : Nat), n ≤ m → ∀ a w, Code.rounds P c Q n a w → Code.rounds P c Q m a w
  | 0, _, _, _, _, h => h.elim
  | n + 1, 0, hm, _, _, _ => by omega
  | n + 1, m + 1, hm, a, w, h => by
    rw [rounds_succ] at h ⊢
    refine wp_mono h ?_
    intro e a' w' h'
    cases e with
    | normal => exact ZiG n m (by omega) a' w' h'
    | exit i => exact h'
    | goto l => exact h'
    | ret => exact h'
    | panic ch => exact h'
    | outgrown => exact h'
theorem Zcb {P : Program} {fn : Func} {R : Ending → World → Prop} {Nx Nx' : Nat → Act → World → Prop} : ∀ {K : List Zak}, (∀ j ∈ ZV K, Nx' j = Nx j) → post P fn R Nx' K = post P fn R Nx K
  | [], _ => rfl
  | .seq b :: K, h => by simp only [post]; rw [Zcb (K := K) h]
  | .blk id :: K, h => by simp only [post]; rw [Zcb (K := K) h]
  | .scp :: K, h => by simp only [post]; rw [Zcb (K := K) h]
  | .rnd j :: K, h => by
    simp only [post]
    rw [Zcb (K := K) fun j hj => h j (List.mem_cons_of_mem _ hj), h j (List.mem_cons_self ..)]
noncomputable def Zc5 : Nat → List (Option AObj) → Tr AObj
  | _, [] => .nil
  | i, none :: l => Zc5 (i + 1) l
  | i, some o :: l => (Zc5 (i + 1) l).set i (some o)
theorem ZfO : ∀ (l : List (Option AObj)) (i k : Nat), (Zc5 i l).get k = if i ≤ k then (l[k - i]?).join else none
  | [], i, k => by
    show (Tr.nil : Tr AObj).get k = _
    rw [Tr.get_nil]
    split <;> simp
  | none :: l, i, k => by
    show (Zc5 (i + 1) l).get k = _
    rw [ZfO l (i + 1) k]
    by_cases h : i + 1 ≤ k
    · rw [if_pos h, if_pos (by omega)]
      have : k - i = (k - (i + 1)) + 1 := by omega
      rw [this, List.getElem?_cons_succ]
    · rw [if_neg h]
      by_cases hk : i ≤ k
      · rw [if_pos hk, show k - i = 0 by omega]; rfl
      · rw [if_neg hk]
  | some o :: l, i, k => by
    show ((Zc5 (i + 1) l).set i (some o)).get k = _
    rw [Tr.get_set]
    by_cases hk : k = i
    · subst hk; rw [Zd, if_pos (Nat.le_refl _)]; simp
    · rw [Zb hk, ZfO l (i + 1) k]
      by_cases h : i + 1 ≤ k
      · rw [if_pos h, if_pos (by omega)]
        have : k - i = (k - (i + 1)) + 1 := by omega
        rw [this, List.getElem?_cons_succ]
      · rw [if_neg h, if_neg (by omega)]
theorem ZgT (l : List (Option AObj)) : (Zc5 0 l).get = lkO l := funext fun k => by rw [ZfO]; simp [lkO]
theorem ZgU {nt m : Nat} {lt : List (Nat × Value)} {H : List (Option AObj)} {T : Tr Value} {s : St} {live : List Nat} (hl : live.length = m) (hn : live.Nodup) (ht : Zd2 (rho live far) ((lt.map (·.1)).map T.get) lt) (hb : Za8 (rho live far) (live.map s.h.get) H) : Into nt m (fun t => Zx t lt) (Zc5 0 H) T s live := by
  refine ⟨hl, hn, fun t v _ h => ZjW ht t v h, fun j o ho => ?_⟩
  rw [ZgT] at ho
  exact Zcp hb j o ho
/-! ### A slice of no room may stand for a nil one -/
def WkV (x y : Value) : Prop := x = y ∨ (x = .slice none 0 0 ∧ ∃ A : Addr, y = .slice (some A) 0 0)
def WkC : List Value → List Value → Prop
  | [], [] => True
  | x :: l, y :: m => WkV x y ∧ WkC l m
  | _, _ => False
def WkO (a b : Option AObj) : Prop := a = b ∨ (∃ c c' t q, a = some (.cells c t q) ∧ b = some (.cells c' t q) ∧ WkC c c') ∨ ∃ c c' t, a = some (.cells c t) ∧ b = some (.cells c' t true) ∧ WkC c c' ∧ c' ≠ []
def WkL : List (Option AObj) → List (Option AObj) → Prop
  | [], [] => True
  | a :: l, b :: m => WkO a b ∧ WkL l m
  | _, _ => False
theorem WkL.refl : ∀ l, WkL l l
  | [] => trivial
  | _ :: l => ⟨.inl rfl, WkL.refl l⟩
theorem WkL.len : ∀ {l m}, WkL l m → l.length = m.length
  | [], [], _ => rfl
  | _ :: l, _ :: m, h => congrArg (· + 1) h.2.len
  | [], _ :: _, h => h.elim
  | _ :: _, [], h => h.elim
theorem WkL.at_ : ∀ {l m}, WkL l m → ∀ k, WkO (lkO l k) (lkO m k)
  | [], [], _, k => .inl rfl
  | a :: l, b :: m, h, 0 => by simpa [lkO] using h.1
  | a :: l, b :: m, h, k + 1 => by
    have := h.2.at_ k
    simpa [lkO] using this
  | [], _ :: _, h, _ => h.elim
  | _ :: _, [], h, _ => h.elim
theorem WkV.vr {ι : Ren} {x y r : Value} (h : WkV x y) (hv : VR ι x r) : VR ι y r := by
  rcases h with rfl | ⟨rfl, A, rfl⟩
  · exact hv
  · cases hv with
    | atom h => exact .slice0 fun _ => rfl
theorem WkC.cells : ∀ {c c' : List Value}, WkC c c' → c.length = c'.length ∧ ∀ (i : Nat) y, c'[i]? = some y → ∃ x, c[i]? = some x ∧ WkV x y
  | [], [], _ => ⟨rfl, fun i y h => by simp at h⟩
  | x :: l, y :: m, h => by
    obtain ⟨h1, h2⟩ := h.2.cells
    refine ⟨congrArg (· + 1) h1, fun i z hz => ?_⟩
    cases i with
    | zero => exact ⟨x, rfl, by have : y = z := by simpa using hz
                                exact this ▸ h.1⟩
    | succ i =>
      obtain ⟨x', q1, q2⟩ := h2 i z (by simpa using hz)
      exact ⟨x', by simpa using q1, q2⟩
  | [], _ :: _, h => h.elim
  | _ :: _, [], h => h.elim
theorem WkC.nil {c c' : List Value} (h : WkC c c') : c'.isEmpty = c.isEmpty := by
  cases c <;> cases c' <;> first | rfl | exact h.elim
theorem WkO.kind {a b : Option AObj} (h : WkO a b) : isC b = isC a ∧ sol b = sol a := by
  rcases h with rfl | ⟨c, c', t, q, rfl, rfl, hw⟩ | ⟨c, c', t, rfl, rfl, hw, hn⟩
  · exact ⟨rfl, rfl⟩
  · cases q with
    | false => exact ⟨rfl, rfl⟩
    | true => constructor <;> (show (!c'.isEmpty) = (!c.isEmpty); rw [hw.nil])
  · cases c' with
    | nil => exact absurd rfl hn
    | cons x c' => exact ⟨rfl, rfl⟩
theorem Emb.weaken {P : Program} {ι : Ren} {h h' : AH} {w : World} (e : Emb P ι h w) (hw : ∀ k, WkO (h k) (h' k)) : Emb P ι h' w where
  obj := fun k c t q hk => by
    rcases hw k with z | ⟨c1, c2, t1, q1, z1, z2, z3⟩ | ⟨c1, c2, t1, z1, z2, z3, z4⟩
    · exact e.obj k c t q (z.trans hk)
    · rw [z2] at hk
      injection hk with hk
      injection hk with hc ht hq
      subst hc ht hq
      obtain ⟨b, hb, ⟨y1, y2, y3⟩ | ⟨y1, C, r2, r3, r4⟩⟩ := e.obj k c1 t1 q1 z1
      · subst y2
        refine ⟨b, hb, .inl ⟨y1, ?_, y3⟩⟩
        cases c2 with
        | nil => rfl
        | cons x l => exact z3.elim
      · obtain ⟨l1, l2⟩ := z3.cells
        refine ⟨b, hb, .inr ⟨?_, C, r2, ⟨l1 ▸ r3.1, fun i x y hx hy => ?_⟩, r4⟩⟩
        · have := (WkO.kind (a := some (.cells c1 t1 q1)) (b := some (.cells c2 t1 q1)) (.inr (.inl ⟨_, _, _, _, rfl, rfl, z3⟩))).1
          rw [this]; exact y1
        · obtain ⟨x', w1, w2⟩ := l2 i x hx
          exact w2.vr (r3.2 i x' y w1 hy)
    · rw [z2] at hk
      injection hk with hk
      injection hk with hc ht hq
      subst hc ht hq
      obtain ⟨b, C, hb, r2, r3, r4⟩ := e.objF k c1 t1 z1
      obtain ⟨l1, l2⟩ := z3.cells
      refine ⟨b, hb, .inr ⟨?_, C, r2, ⟨l1 ▸ r3.1, fun i x y hx hy => ?_⟩, r4⟩⟩
      · cases c2 with
        | nil => exact absurd rfl z4
        | cons x l => rfl
      · obtain ⟨x', w1, w2⟩ := l2 i x hx
        exact w2.vr (r3.2 i x' y w1 hy)
  ro := fun {m} k O hk => by
    rcases hw k with q | ⟨c1, c2, t1, q1, z1, z2, z3⟩ | ⟨c1, c2, t1, z1, z2, z3, z4⟩
    · exact e.ro k O (q.trans hk)
    · rw [z2] at hk; injection hk with hk; cases hk
    · rw [z2] at hk; injection hk with hk; cases hk
  inj := fun k k' b b' h1 h2 h3 h4 h5 => e.inj k k' b b' ((hw k).kind.1 ▸ h1) ((hw k').kind.2 ▸ h2) h3 h4 h5
  lt := e.lt
  mks := fun b base id q hq => by
    obtain ⟨m1, m2, m3⟩ := e.mks b base id q hq
    exact ⟨m1, m2, fun k d hk hd => m3 k d ((hw k).kind.1 ▸ hk) hd⟩
  tb := e.tb
theorem Step.weaken {P : Program} {ι ι' : Ren} {h h1 h2 : AH} {w w' : World} (s : Step P ι h w ι' h1 w') (hw : ∀ k, WkO (h1 k) (h2 k)) : Step P ι h w ι' h2 w' where
  ext := s.ext
  emb := s.emb.weaken hw
  os := s.os
  tape := s.tape
  output := s.output
  size := s.size
  frame := s.frame
  new := s.new
  alive := fun k hk hi => s.alive k ((hw k).kind.2 ▸ hk) hi
  kind := fun k hk hi => s.kind k ((hw k).kind.1 ▸ hk) hi
theorem Step.ph {P : Program} {ι0 ι : Ren} {h0 h : AH} {w0 w : World} (S : Step P ι0 h0 w0 ι h w) {j i : Nat} (t : TypeId) (hjf : j < 1000000000) (hj : ι j = none) (hh : h j = none) (hi : isC (h i) = true) : ∃ b, Step P ι0 h0 w0 (upd ι j (some b)) (upd h j (some (.cells [] t true))) w := by
  obtain ⟨bi, hbi⟩ := S.emb.live (ZS hi)
  have hx : ∀ k b, ι k = some b → upd ι j (some (bi.1, 0)) k = some b := fun k b hk => by
    rw [Zb]; · exact hk
    · intro e; subst e; rw [hj] at hk; cases hk
  have ne : ∀ k o, upd h j (some (AObj.cells [] t true)) k = some o → k ≠ j → h k = some o := fun k o hk hkj => by rwa [Zb hkj] at hk
  have neC : ∀ k, isC (upd h j (some (AObj.cells [] t true)) k) = true → k ≠ j ∧ isC (h k) = true := fun k hk => by
    by_cases hkj : k = j
    · subst hkj; rw [Zd] at hk; cases hk
    · exact ⟨hkj, by rwa [Zb hkj] at hk⟩
  have neS : ∀ k, sol (upd h j (some (AObj.cells [] t true)) k) = true → k ≠ j ∧ sol (h k) = true := fun k hk => by
    by_cases hkj : k = j
    · subst hkj; rw [Zd] at hk; cases hk
    · exact ⟨hkj, by rwa [Zb hkj] at hk⟩
  refine ⟨(bi.1, 0), fun k b hk => hx k b (S.ext k b hk), ⟨fun k c t' q hk => ?_, fun k O hk => ?_, fun k k' b b' h1 h2 h3 h4 h5 => ?_, fun k b hk => ?_, fun b base id q hq => ?_, fun x hx' => (S.emb.tb x hx').imp fun q hq => hx _ _ hq⟩, S.os, S.tape, S.output, S.size, S.frame, fun k b h1 h2 => ?_, fun k h1 h2 => S.alive k (neS k h1).2 h2, fun k h1 h2 => S.kind k (neC k h1).2 h2⟩
  · by_cases hkj : k = j
    · subst hkj
      rw [Zd] at hk
      injection hk with hk
      injection hk with q1 q2 q3
      subst q1 q2 q3
      exact ⟨_, Zd, .inl ⟨rfl, rfl, rfl⟩⟩
    · obtain ⟨b, hb, hz⟩ := S.emb.obj k c t' q (ne k _ hk hkj)
      exact ⟨b, hx k b hb, hz.imp id fun ⟨z1, C, z2, z3, z4⟩ => ⟨z1, C, z2, z3.ext hx, z4⟩⟩
  · by_cases hkj : k = j
    · subst hkj; rw [Zd] at hk; injection hk with hk; cases hk
    · obtain ⟨b, hb, hB⟩ := S.emb.ro k O (ne k _ hk hkj)
      exact ⟨b, hx k b hb, hB⟩
  · obtain ⟨g1, g2⟩ := neC k h1
    obtain ⟨g3, g4⟩ := neS k' h2
    rw [Zb g1] at h3
    rw [Zb g3] at h4
    exact S.emb.inj k k' b b' g2 g4 h3 h4 h5
  · by_cases hkj : k = j
    · subst hkj; rw [Zd] at hk; injection hk with hk; subst hk; exact S.emb.lt i bi hbi
    · rw [Zb hkj] at hk; exact S.emb.lt k b hk
  · obtain ⟨m1, m2, m3⟩ := S.emb.mks b base id q (ZdH hjf _ _ _ _ hq)
    refine ⟨m1, ⟨m2.1.ext hx rfl, fun o c hc => hx _ _ (m2.2 o c hc)⟩, fun k d hk hd => ?_⟩
    obtain ⟨g1, g2⟩ := neC k hk
    rw [Zb g1] at hd
    exact m3 k d g2 hd
  · by_cases hkj : k = j
    · subst hkj
      rw [Zd] at h2
      injection h2 with h2
      subst h2
      cases hi0 : ι0 i with
      | none => exact S.new i bi hi0 hbi
      | some c =>
        have := S.ext i c hi0
        rw [hbi] at this
        injection this with this
        subst this
        exact .inr ⟨i, _, S.kind i hi (by rw [hi0]; simp), hi0, rfl⟩
    · rw [Zb hkj] at h2
      exact S.new k b h1 h2
def Zgm : List (Nat × TypeId) → List (Option AObj) → List (Option AObj)
  | [], H => H
  | x :: js, H => Zgm js (H.set x.1 (some (.cells [] x.2 true)))
def ZnE (live : List Nat) (H : List (Option AObj)) (js : List (Nat × TypeId)) : Bool :=
  Zg (fun x => (match live[x.1]? with | some k => Nat.ble 500000000 k | none => false) && (match H[x.1]? with | some none => true | _ => false)) js && decide (js.map (·.1)).Nodup
theorem ZiH : ∀ (js : List (Nat × TypeId)) (H : List (Option AObj)), (Zgm js H).length = H.length
  | [], _ => rfl
  | x :: js, H => by show (Zgm js _).length = _; rw [ZiH js]; simp
theorem Zlm {H : List (Option AObj)} {j : Nat} {o : Option AObj} (hj : j < H.length) : lkO (H.set j o) = upd (lkO H) j o := funext fun k => by
  unfold lkO
  by_cases hk : k = j
  · subst hk; rw [Zd]; simp [hj]
  · rw [Zb hk, List.getElem?_set_ne (fun e => hk e.symm)]
theorem Zkf {P : Program} {ι0 : Ren} {h0 : AH} {w0 w : World} {i : Nat} : ∀ (js : List (Nat × TypeId)) (H : List (Option AObj)) (ι : Ren), H.length ≤ far → (∀ x ∈ js, H[x.1]? = some none ∧ ι x.1 = none) → (js.map (·.1)).Nodup → (js = [] ∨ isC (lkO H i) = true) → Step P ι0 h0 w0 ι (lkO H) w →
    ∃ ι', (∀ k b, ι k = some b → ι' k = some b) ∧ Step P ι0 h0 w0 ι' (lkO (Zgm js H)) w ∧ ∀ k, H.length ≤ k → ι k = none → ι' k = none
  | [], H, ι, _, _, _, _, S => ⟨ι, fun _ _ h => h, S, fun _ _ h => h⟩
  | x :: js, H, ι, hl, hx, hn, hi, S => by
    obtain ⟨h1, h2⟩ := hx x (List.mem_cons_self ..)
    have hlt : x.1 < H.length := (List.getElem?_eq_some_iff.1 h1).1
    have hC : isC (lkO H i) = true := by rcases hi with h | h; cases h; exact h
    have hn1 : lkO H x.1 = none := by unfold lkO; rw [h1]; rfl
    obtain ⟨b, S1⟩ := S.ph x.2 (Nat.lt_of_lt_of_le hlt hl) h2 hn1 hC
    rw [← Zlm hlt] at S1
    have hnd := List.nodup_cons.1 hn
    have hix : i ≠ x.1 := fun e => by subst e; rw [hn1] at hC; cases hC
    obtain ⟨ι', q1, q2, q3⟩ := Zkf (i := i) js (H.set x.1 (some (.cells [] x.2 true))) _ (by simpa using hl) (fun y hy => by
      have hne : y.1 ≠ x.1 := fun e => hnd.1 (List.mem_map.2 ⟨y, hy, e⟩)
      obtain ⟨g1, g2⟩ := hx y (List.mem_cons_of_mem _ hy)
      exact ⟨by rw [List.getElem?_set_ne (fun e => hne e.symm)]; exact g1, by rw [Zb hne]; exact g2⟩) hnd.2 (.inr (by rw [Zlm hlt, Zb hix]; exact hC)) S1
    refine ⟨ι', fun k c hk => q1 k c (by rw [Zb (fun e => by subst e; rw [h2] at hk; cases hk)]; exact hk), q2, fun k hk hk2 => q3 k (by simpa using hk) (by rw [Zb (by omega)]; exact hk2)⟩
structure Mach where
  fn : Func
  pre : List AObj
  X : Type
  R : Type
  step : X → Option (X ⊕ R)
  hd : X → Nat
  code : Nat → Code × List Zak
  isL : Nat → Bool
  L : X → List (Nat × Value)
  H : X → List (Option AObj)
  V : R → Value
  Po : R → List (Option AObj)
namespace Mach
def after (M : Mach) (n : Nat) : M.X ⊕ M.R → Option M.R
  | .inl y => Zbi M.step n y
  | .inr r => some r
def KK (M : Mach) (i : Nat) : List Zak := match M.isL i with | true => .rnd i :: (M.code i).2 | false => (M.code i).2
def IntoM (M : Mach) (y : M.X) (T : Tr Value) (s : St) : Prop :=
  ∃ live H0 js, WkL (Zgm js H0) (M.H y) ∧ ZnE live H0 js = true ∧ (js = [] ∨ ∃ i, isC (lkO H0 i) = true) ∧ ZbA M.pre.length live = true ∧ Into M.fn.ntmps H0.length (fun t => Zx t (M.L y)) (Zc5 0 H0) T s live
def To (M : Mach) (K0 : List Zak) : StopC → M.X ⊕ M.R → Prop
  | .fin u s, .inr r => ∃ live, Zhz M.pre.length (M.V r) (M.Po r) u s live
  | .next j T s, .inl y => j = M.hd y ∧ M.isL j = true ∧ j ∈ ZV K0 ∧ M.IntoM y T s
  | .head b K T s, .inl y => M.isL (M.hd y) = true ∧ (b, K) = M.code (M.hd y) ∧ (∀ j ∈ ZV K, j ∈ ZV K0) ∧ M.IntoM y T s
  | .cut b K T s, .inl y => M.isL (M.hd y) = false ∧ (b, K) = M.code (M.hd y) ∧ (∀ j ∈ ZV K, j ∈ ZV K0) ∧ M.IntoM y T s
  | .thr u _, .inr r => M.V r = u ∧ Zaq u = true ∧ M.Po r = M.pre.map fun _ => none
  | _, _ => False
noncomputable def Start (M : Mach) (x : M.X) (gv : Nat → Value) (P : Program) (ext : FuncId → Option Ext) (cd cm fu : Nat) (orc : Orc) : Option StopC :=
  ZaO P ext M.fn M.fn.ntmps cd fu cm (M.code (M.hd x)).1 (M.KK (M.hd x)) (tmps M.fn.ntmps (fun t => Zx t (M.L x)) gv) ⟨Zc5 0 (M.H x), (M.H x).length, [], orc, []⟩
noncomputable def Ok (M : Mach) (P : Program) (ext : FuncId → Option Ext) (x : M.X) (o : Option (M.X ⊕ M.R)) : Prop :=
  ∀ y, o = some y → ∀ gv, ∃ cd cm fu orc st, M.Start x gv P ext cd cm fu orc = some st ∧ (∀ p ∈ st.s.ob, p.1 = p.2) ∧ st.s.n ≤ 500000000 ∧ M.To (M.KK (M.hd x)) st y
def AtM (M : Mach) (P : Program) (ι0 : Ren) (w0 : World) (y : M.X) (gv : Nat → Value) (a : Act) (w : World) : Prop :=
  At P M.fn.ntmps (tmps M.fn.ntmps (fun t => Zx t (M.L y)) gv) (Zc5 0 (M.H y)).get (M.H y).length far ι0 (lk M.pre) w0 a w
section
variable {P : Program} {ext : FuncId → Option Ext}
def Good (M : Mach) (P : Program) (r : M.R) (ι0 : Ren) (w0 : World) (n : Nat) (x : M.X) (Nx : Nat → Act → World → Prop) (a : Act) (w : World) : Prop :=
  match M.isL (M.hd x) with
  | true => Code.rounds P (M.code (M.hd x)).1 (post P M.fn (Fin P ι0 M.pre w0 (M.V r) (M.Po r)) Nx (M.code (M.hd x)).2) n a w
  | false => (M.code (M.hd x)).1.wp P (post P M.fn (Fin P ι0 M.pre w0 (M.V r) (M.Po r)) Nx (M.code (M.hd x)).2) a w
def Outer (M : Mach) (P : Program) (r : M.R) (ι0 : Ren) (w0 : World) (n : Nat) (js : List Nat) (Nx : Nat → Act → World → Prop) : Prop :=
  ∀ m z, m < n → Zbi M.step m z = some r → M.isL (M.hd z) = true → M.hd z ∈ js → ∀ gv a w, M.AtM P ι0 w0 z gv a w → Nx (M.hd z) a w
theorem ZkL {n : Nat} (h : n ≤ far) : ZbA n (List.range n) = true := by
  unfold ZbA
  rw [Bool.and_eq_true]
  constructor
  · rw [List.take_of_length_le (by simp)]; exact beq_self_eq_true _
  · have : ∀ l : List Nat, (∀ k ∈ l, k < 1000000000) → Zg (fun k => Nat.blt k 1000000000) l = true := by
      intro l
      induction l with
      | nil => intro _; rfl
      | cons x l ih =>
        intro hl
        show (Nat.blt x 1000000000 && Zg _ l) = true
        rw [ih fun k hk => hl k (List.mem_cons_of_mem _ hk), Bool.and_true, Nat.blt_eq]
        exact hl x (List.mem_cons_self ..)
    exact this _ fun k hk => Nat.lt_of_lt_of_le (List.mem_range.1 hk) h
theorem into_atM (M : Mach) (hH : ∀ x, (M.H x).length ≤ far) {y : M.X} {T : Tr Value} {s : St} (h : M.IntoM y T s) {ι0 ι : Ren} {w0 w : World} {a : Act} (hd : ∀ k, ι0 k ≠ none → k < M.pre.length ∨ ZbT k) (hT : TR ι M.fn.ntmps [] T a) (hS : Step P ι0 (lk M.pre) w0 ι s.h.get w) (hF : ∀ k, 500000000 ≤ k → k < far → ι k = none) : ∃ gv, M.AtM P ι0 w0 y gv a w := by
  obtain ⟨live, H0, js, hwk, hph, hi, hk, h1, h2, h3, h4⟩ := h
  have hlen : H0.length = (M.H y).length := by rw [← hwk.len, ZiH]
  obtain ⟨gv, ι', a1, a2, a3, _, a5⟩ := ZjL hT hS live H0.length far rfl (ZgJ hk) h1 (hlen ▸ hH y) h2 (fun k hk2 => (hd k hk2).imp (Zhx hk) id) (fun t => Zx t (M.L y)) h3 (Zc5 0 H0).get h4
  rw [ZgT] at a2
  unfold ZnE at hph
  rw [Bool.and_eq_true] at hph
  obtain ⟨i, hi'⟩ : ∃ i, js = [] ∨ isC (lkO H0 i) = true := by
    rcases hi with h | ⟨i, h⟩
    · exact ⟨0, .inl h⟩
    · exact ⟨i, .inr h⟩
  obtain ⟨ι2, b1, b2, b3⟩ := Zkf (i := i) js H0 ι' (hlen ▸ hH y) (fun x hx => by
    have hq := Zr hph.1 x hx
    rw [Bool.and_eq_true] at hq
    obtain ⟨g1, g2⟩ := hq
    constructor
    · split at g2
      · assumption
      · cases g2
    · split at g1
      · rename_i k hlk
        rw [a5 x.1 k hlk]
        exact hF k (Nat.le_of_ble_eq_true g1) (ZgJ hk k (List.mem_of_getElem? hlk))
      · cases g1) (of_decide_eq_true hph.2) hi' a2
  refine ⟨gv, ι2, a1.on b1, ?_, fun k hk1 hk2 => b3 k (hlen ▸ hk1) (a3 k (hlen ▸ hk1) hk2)⟩
  rw [ZgT]
  exact b2.weaken hwk.at_
theorem run1 (M : Mach) (hH : ∀ x, (M.H x).length ≤ far) (hPo : ∀ r, (M.Po r).length ≤ far) (r : M.R) {ι0 : Ren} {w0 : World} (hd0 : ∀ k, ι0 k ≠ none → k < M.pre.length ∨ ZbT k) (n : Nat)
    (ih : ∀ m, m ≤ n → ∀ x, Zbi M.step m x = some r → ∀ Nx, M.Outer P r ι0 w0 m (ZV (M.code (M.hd x)).2) Nx → ∀ gv a w, M.AtM P ι0 w0 x gv a w → M.Good P r ι0 w0 m x Nx a w)
    {K0 : List Zak} {Nx : Nat → Act → World → Prop} (hNx : M.Outer P r ι0 w0 (n + 1) (ZV K0) Nx) {st : StopC} {y : M.X ⊕ M.R} (hto : M.To K0 st y) (hy : M.after n y = some r)
    {ι : Ren} {a : Act} {w : World} (hS : Step P ι0 (lk M.pre) w0 ι st.s.h.get w) (hF : ∀ k, 500000000 ≤ k → k < far → ι k = none) : ZfN P M.fn (Fin P ι0 M.pre w0 (M.V r) (M.Po r)) Nx M.fn.ntmps ι a w st := by
  have sub : ∀ {K : List Zak}, (∀ j ∈ ZV K, j ∈ ZV K0) → M.Outer P r ι0 w0 n (ZV K) Nx := fun {K} hs m z hm hz hl hj gv a w hat => hNx m z (by omega) hz hl (hs _ hj) gv a w hat
  cases st with
  | fin u s =>
    cases y with
    | inl y => exact hto.elim
    | inr r' =>
      obtain ⟨live, hto⟩ := hto
      obtain rfl : r' = r := Option.some.inj hy
      exact fun v' hv => Zh0 (hPo r') hd0 hto hS hv
  | next j T s =>
    cases y with
    | inr r' => exact hto.elim
    | inl y =>
      obtain ⟨rfl, hl, hj, hin⟩ := hto
      intro hT
      obtain ⟨gv, hat⟩ := M.into_atM hH hin hd0 hT hS hF
      exact hNx n y (by omega) hy hl hj gv a w hat
  | head b K T s =>
    cases y with
    | inr r' => exact hto.elim
    | inl y =>
      obtain ⟨hl, hc, hsub, hin⟩ := hto
      intro hT
      obtain ⟨gv, hat⟩ := M.into_atM hH hin hd0 hT hS hF
      have e1 : b = (M.code (M.hd y)).1 := congrArg Prod.fst hc
      have e2 : K = (M.code (M.hd y)).2 := congrArg Prod.snd hc
      subst e1 e2
      have := ih n (Nat.le_refl _) y hy Nx (sub hsub) gv a w hat
      unfold Good at this
      rw [hl] at this
      exact wp_loop_rounds n this
  | thr u s =>
    cases y with
    | inl y => exact hto.elim
    | inr r' =>
      obtain ⟨hv, ht, hpo⟩ := hto
      obtain rfl : r' = r := Option.some.inj hy
      intro _
      have hl : (M.Po r').length = M.pre.length := by rw [hpo, List.length_map]
      have hfar : M.pre.length ≤ far := hl ▸ hPo r'
      have hf := Zh0 (v := .bool true) (u := .bool true) (v' := .bool true) (post := M.Po r') (s := s) (live := List.range M.pre.length) (hPo r') hd0 ⟨by rw [hl, List.length_range], List.nodup_range, ZkL hfar, ⟨rfl, rfl⟩, fun j o hj => by
        rw [hpo] at hj
        exfalso
        unfold lkO at hj
        rw [List.getElem?_map] at hj
        cases hx : M.pre[j]? <;> rw [hx] at hj <;> cases hj⟩ hS (.atom rfl)
      rcases hf with ⟨v', ι', _, g2, g3, _⟩ | ⟨hz, _⟩
      · rw [← hv] at ht ⊢
        exact .inr ⟨ht, ι', rfl, g2, g3⟩
      · cases hz
  | cut b K T s =>
    cases y with
    | inr r' => exact hto.elim
    | inl y =>
      obtain ⟨hl, hc, hsub, hin⟩ := hto
      intro hT
      obtain ⟨gv, hat⟩ := M.into_atM hH hin hd0 hT hS hF
      have e1 : b = (M.code (M.hd y)).1 := congrArg Prod.fst hc
      have e2 : K = (M.code (M.hd y)).2 := congrArg Prod.snd hc
      subst e1 e2
      have := ih n (Nat.le_refl _) y hy Nx (sub hsub) gv a w hat
      unfold Good at this
      rw [hl] at this
      exact this
theorem rounds (F : Fit P ext) (M : Mach) (hH : ∀ x, (M.H x).length ≤ far) (hPo : ∀ r, (M.Po r).length ≤ far) (hK : ∀ x, M.isL (M.hd x) = true → M.hd x ∉ ZV (M.code (M.hd x)).2) (ok : ∀ x, M.Ok P ext x (M.step x)) (r : M.R) {ι0 : Ren} {w0 : World} (hd0 : ∀ k, ι0 k ≠ none → k < M.pre.length ∨ ZbT k) :
    ∀ (n : Nat) (x : M.X), Zbi M.step n x = some r → ∀ Nx, M.Outer P r ι0 w0 n (ZV (M.code (M.hd x)).2) Nx → ∀ gv a w, M.AtM P ι0 w0 x gv a w → M.Good P r ι0 w0 n x Nx a w := by
  intro n
  induction n using Nat.strongRecOn with
  | ind n ih =>
    intro x hx Nx hNx gv a w hat
    cases n with
    | zero => cases hx
    | succ n =>
      have hat0 := hat
      obtain ⟨ι, hT, hS, hfr⟩ := hat
      cases hy : M.step x with
      | none => simp only [Zbi, hy] at hx; cases hx
      | some y =>
        obtain ⟨cd, cm, fu, orc, st, hev, ho, hn, hto⟩ := ok x y hy gv
        have hyr : M.after n y = some r := by
          cases y <;> (simp only [Zbi, hy] at hx; exact hx)
        have hn' : st.s.n ≤ far := Nat.le_trans hn (by decide)
        have fresh : Fresh ι (M.H x).length st.s.n := ⟨hn', fun k h1 h2 => hfr k h1 (Nat.lt_of_lt_of_le h2 hn')⟩
        have ih' : ∀ m, m ≤ n → ∀ x, Zbi M.step m x = some r → ∀ Nx, M.Outer P r ι0 w0 m (ZV (M.code (M.hd x)).2) Nx → ∀ gv a w, M.AtM P ι0 w0 x gv a w → M.Good P r ι0 w0 m x Nx a w := fun m hm => ih m (by omega)
        have go : ∀ Nx', M.Outer P r ι0 w0 (n + 1) (ZV (M.KK (M.hd x))) Nx' → (M.code (M.hd x)).1.wp P (post P M.fn (Fin P ι0 M.pre w0 (M.V r) (M.Po r)) Nx' (M.KK (M.hd x))) a w := fun Nx' hNx' =>
          (ZiF F (R := Fin P ι0 M.pre w0 (M.V r) (M.Po r)) (Nx := Nx') fu).1 cm _ _ _ _ st hev ho ι a w hT hS.emb fresh fun ι' a' w' g1 g2 => run1 M hH hPo r hd0 n ih' hNx' hto hyr (hS.trans g1) (fun k h1 h2 => by
            cases hik : ι' k with
            | none => rfl
            | some c =>
              rcases g2 k (by rw [hik]; simp) with h | ⟨_, h⟩ | h
              · exact absurd (hfr k (by have : (M.H x).length ≤ st.s.n := ((Zkd F (fn := M.fn) (nt := M.fn.ntmps) (cd := cd) fu).1 _ _ _ _ _ _ hev).n; omega) h2) h
              · omega
              · omega)
        unfold Good
        cases hl : M.isL (M.hd x) with
        | false =>
          have e : M.KK (M.hd x) = (M.code (M.hd x)).2 := by unfold KK; rw [hl]
          rw [e] at go
          exact go Nx hNx
        | true =>
          have e : M.KK (M.hd x) = .rnd (M.hd x) :: (M.code (M.hd x)).2 := by unfold KK; rw [hl]
          rw [e] at go
          show Code.rounds P _ _ (n + 1) a w
          rw [rounds_succ]
          let Nx' : Nat → Act → World → Prop := fun j => if j = M.hd x then Code.rounds P (M.code (M.hd x)).1 (post P M.fn (Fin P ι0 M.pre w0 (M.V r) (M.Po r)) Nx (M.code (M.hd x)).2) n else Nx j
          have n1 : Nx' (M.hd x) = Code.rounds P (M.code (M.hd x)).1 (post P M.fn (Fin P ι0 M.pre w0 (M.V r) (M.Po r)) Nx (M.code (M.hd x)).2) n := if_pos rfl
          have n2 : ∀ j, j ≠ M.hd x → Nx' j = Nx j := fun j hj => if_neg hj
          have hp : post P M.fn (Fin P ι0 M.pre w0 (M.V r) (M.Po r)) Nx' (M.code (M.hd x)).2 = post P M.fn (Fin P ι0 M.pre w0 (M.V r) (M.Po r)) Nx (M.code (M.hd x)).2 := Zcb fun j hj => n2 j fun e => by subst e; exact hK x hl hj
          have := go Nx' fun m z hm hz hlz hj gv a w hat => by
            by_cases hzx : M.hd z = M.hd x
            · rw [hzx, n1]
              have := ih m (by omega) z hz Nx (fun m' z' h1 h2 h3 h4 => hNx m' z' (by omega) h2 h3 (by rw [hzx] at h4; exact h4)) gv a w hat
              unfold Good at this
              rw [hlz] at this
              rw [hzx] at this
              exact ZiG m n (by omega) a w this
            · rw [n2 _ hzx]
              rcases List.mem_cons.1 hj with h | h
              · exact absurd h hzx
              · exact hNx m z (by omega) hz hlz h gv a w hat
          simp only [post, hp, n1] at this
          exact this
noncomputable def Enter (M : Mach) (P : Program) (ext : FuncId → Option Ext) (A : Array Value) (o : Option (M.X ⊕ M.R)) : Prop :=
  ∀ y, o = some y → ∃ cd cm fu orc st, ZaO P ext M.fn M.fn.ntmps cd fu cm (Zec M.fn) [] (Zat 0 A.toList .nil) ⟨Zbx 0 M.pre, M.pre.length, [], orc, []⟩ = some st ∧ (∀ p ∈ st.s.ob, p.1 = p.2) ∧ st.s.n ≤ 500000000 ∧ M.To [] st y
theorem spec (F : Fit P ext) (M : Mach) {f : FuncId} (hfn : P.funcs[f]? = some M.fn) (hb : M.fn.body = some (Zec M.fn)) {A : Array Value} (hA : Nat.ble A.size M.fn.ntmps = true) (hH : ∀ x, (M.H x).length ≤ far) (hPo : ∀ r, (M.Po r).length ≤ far) (hK : ∀ x, M.isL (M.hd x) = true → M.hd x ∉ ZV (M.code (M.hd x)).2)
    (ok : ∀ x, M.Ok P ext x (M.step x)) {o : Option (M.X ⊕ M.R)} (en : M.Enter P ext A o) {n : Nat} {r : M.R} (h : goM M.step n o = some r) : LSpec P f A M.pre (M.V r) (M.Po r) := by
  cases o with
  | none => cases h
  | some y =>
    obtain ⟨cd, cm, fu, orc, st, hev, ho, hn, hto⟩ := en y rfl
    refine ZmP F hfn hb hA hev ho (Nat.le_trans hn (by decide)) fun ι0 w0 hd ι' a' w' hS hD => ?_
    exact run1 M hH hPo r hd n (fun m _ => rounds F M hH hPo hK ok r hd m) (K0 := []) (fun m z _ _ _ hj => by cases hj) hto (by cases y <;> exact h) hS (fun k h1 h2 => by
      cases hik : ι' k with
      | none => rfl
      | some c =>
        rcases hD k (by rw [hik]; simp) with h | ⟨_, h⟩ | h
        · rcases hd k h with h | h
          · have : M.pre.length ≤ st.s.n := ((Zkd F (fn := M.fn) (nt := M.fn.ntmps) (cd := cd) fu).1 _ _ _ _ _ _ hev).n; omega
          · unfold ZbT at h; unfold far at h2; omega
        · omega
        · omega)
end
/-! ### How leaves are written -/
section
variable {P : Program} {ext : FuncId → Option Ext} {M : Mach} {x : M.X} {cd cm fu : Nat} {orc : Orc} {live : List Nat} {bl : List (Option AObj)} {ob : List (Bool × Bool)}
theorem ok_none : M.Ok P ext x none := fun _ h => by cases h
theorem ok_ite {c : Prop} [Decidable c] {A B : Option (M.X ⊕ M.R)} (h1 : c → M.Ok P ext x A) (h2 : ¬ c → M.Ok P ext x B) : M.Ok P ext x (if c then A else B) := by
  by_cases h : c
  · rw [if_pos h]; exact h1 h
  · rw [if_neg h]; exact h2 h
theorem ok_bind {α : Type} {o : Option α} {k : α → Option (M.X ⊕ M.R)} (h : ∀ r, o = some r → M.Ok P ext x (k r)) : M.Ok P ext x (o.bind k) := by
  cases o with
  | none => exact ok_none
  | some r => exact h r rfl
theorem ok_fin {r : M.R} {u : Value} (hev : ∀ gv, Zij live (M.Start x gv P ext cd cm fu orc) = some (u, bl, ob)) (ho : ∀ p ∈ ob, p.1 = p.2) (hl : live.length = (M.Po r).length) (hn : live.Nodup) (hk : ZbA M.pre.length live = true) (hv : M.V r = Z2 (rho live far) 3 u ∧ Zw 3 u = true) (hbl : Za8 (rho live far) bl (M.Po r)) : M.Ok P ext x (some (.inr r)) := by
  intro y hy gv
  obtain rfl := Option.some.inj hy
  obtain ⟨s, h1, rfl, rfl, h4⟩ := Zke (hev gv)
  exact ⟨cd, cm, fu, orc, _, h1, ho, h4, live, hl, hn, hk, hv, Zcp hbl⟩
theorem ok_next {y : M.X} {tv : (Nat → Value) → List (Option Value)} (hL : M.isL (M.hd y) = true) (hr : M.hd y ∈ ZV (M.KK (M.hd x))) (hev : ∀ gv, ZgS (M.hd y) live ((M.L y).map (·.1)) (M.Start x gv P ext cd cm fu orc) = some (tv gv, bl, ob)) (ho : ∀ p ∈ ob, p.1 = p.2) (hl : live.length = (M.H y).length) (hn : live.Nodup) (hk : ZbA M.pre.length live = true) (ht : ∀ gv, Zd2 (rho live far) (tv gv) (M.L y)) (hbl : Za8 (rho live far) bl (M.H y)) : M.Ok P ext x (some (.inl y)) := by
  intro y' hy gv
  obtain rfl := Option.some.inj hy
  obtain ⟨T, s, h1, h2, rfl, rfl, h4⟩ := ZiT (hev gv)
  exact ⟨cd, cm, fu, orc, _, h1, ho, h4, rfl, hL, hr, live, M.H y, [], WkL.refl _, rfl, .inl rfl, hk, ZgU hl hn (h2 ▸ ht gv) hbl⟩
variable {A : Array Value}
noncomputable def startE (M : Mach) (P : Program) (ext : FuncId → Option Ext) (A : Array Value) (cd cm fu : Nat) (orc : Orc) : Option StopC :=
  ZaO P ext M.fn M.fn.ntmps cd fu cm (Zec M.fn) [] (Zat 0 A.toList .nil) ⟨Zbx 0 M.pre, M.pre.length, [], orc, []⟩
theorem en_head {y : M.X} {tv : List (Option Value)} {bK : Code × List Zak} (hL : M.isL (M.hd y) = true) (hr : bK = M.code (M.hd y)) (hsub : ZV (M.code (M.hd y)).2 = []) (hev : Zfe live ((M.L y).map (·.1)) (M.startE P ext A cd cm fu orc) = some (bK, tv, bl, ob)) (ho : ∀ p ∈ ob, p.1 = p.2) (hl : live.length = (M.H y).length) (hn : live.Nodup) (hk : ZbA M.pre.length live = true) (ht : Zd2 (rho live far) tv (M.L y)) (hbl : Za8 (rho live far) bl (M.H y)) : M.Enter P ext A (some (.inl y)) := by
  intro y' hy
  obtain rfl := Option.some.inj hy
  obtain ⟨T, s, h1, rfl, rfl, rfl, h4⟩ := Zfm hev
  exact ⟨cd, cm, fu, orc, _, h1, ho, h4, hL, hr, (fun j hj => by rw [show bK.2 = (M.code (M.hd y)).2 from congrArg Prod.snd hr, hsub] at hj; cases hj), live, M.H y, [], WkL.refl _, rfl, .inl rfl, hk, ZgU hl hn ht hbl⟩
theorem en_headW {y : M.X} (H0 : List (Option AObj)) (js : List (Nat × TypeId)) (i : Nat) (hw : WkL (Zgm js H0) (M.H y)) (hp : ZnE live H0 js = true) (hi : isC (lkO H0 i) = true) {tv : List (Option Value)} {bK : Code × List Zak} (hL : M.isL (M.hd y) = true) (hr : bK = M.code (M.hd y)) (hsub : ZV (M.code (M.hd y)).2 = []) (hev : Zfe live ((M.L y).map (·.1)) (M.startE P ext A cd cm fu orc) = some (bK, tv, bl, ob)) (ho : ∀ p ∈ ob, p.1 = p.2) (hl : live.length = H0.length) (hn : live.Nodup) (hk : ZbA M.pre.length live = true) (ht : Zd2 (rho live far) tv (M.L y)) (hbl : Za8 (rho live far) bl H0) : M.Enter P ext A (some (.inl y)) := by
  intro y' hy
  obtain rfl := Option.some.inj hy
  obtain ⟨T, s, h1, rfl, rfl, rfl, h4⟩ := Zfm hev
  exact ⟨cd, cm, fu, orc, _, h1, ho, h4, hL, hr, (fun j hj => by rw [show bK.2 = (M.code (M.hd y)).2 from congrArg Prod.snd hr, hsub] at hj; cases hj), live, H0, js, hw, hp, .inr ⟨i, hi⟩, hk, ZgU hl hn ht hbl⟩
end
end Mach
/-! ### Functions without loops -/
section
variable {P : Program} {ext : FuncId → Option Ext} {fn : Func} {pre : List AObj} {A : Array Value} {R : Type} {V : R → Value} {Po : R → List (Option AObj)} {live : List Nat} {bl : List (Option AObj)} {ob : List (Bool × Bool)} {fu : Nat} {orc : Orc}
noncomputable def ZmQ (P : Program) (ext : FuncId → Option Ext) (fn : Func) (pre : List AObj) (A : Array Value) (fu : Nat) (orc : Orc) : Option Stop :=
  Zch P ext fn fn.ntmps fu (Zec fn) [] (Zat 0 A.toList .nil) ⟨Zbx 0 pre, pre.length, [], orc, []⟩
noncomputable def Fx (P : Program) (ext : FuncId → Option Ext) (fn : Func) (pre : List AObj) (A : Array Value) {R : Type} (V : R → Value) (Po : R → List (Option AObj)) (o : Option R) : Prop :=
  ∀ r, o = some r → ∃ fu orc u s, ZmQ P ext fn pre A fu orc = some (.fin u s) ∧ (∀ p ∈ s.ob, p.1 = p.2) ∧ s.n ≤ far ∧ ∃ live, Zhz pre.length (V r) (Po r) u s live
theorem Zov : Fx P ext fn pre A V Po none := fun _ h => by cases h
theorem ZoF {c : Prop} [Decidable c] {B C : Option R} (h1 : c → Fx P ext fn pre A V Po B) (h2 : ¬ c → Fx P ext fn pre A V Po C) : Fx P ext fn pre A V Po (if c then B else C) := by
  by_cases h : c
  · rw [if_pos h]; exact h1 h
  · rw [if_neg h]; exact h2 h
theorem Zow {α : Type} {o : Option α} {k : α → Option R} (h : ∀ r, o = some r → Fx P ext fn pre A V Po (k r)) : Fx P ext fn pre A V Po (o.bind k) := by
  cases o with
  | none => exact Zov
  | some r => exact h r rfl
theorem Zkg {r : R} {u : Value} (hev : ZhJ live (ZmQ P ext fn pre A fu orc) = some (u, bl, ob)) (ho : ∀ p ∈ ob, p.1 = p.2) (hl : live.length = (Po r).length) (hn : live.Nodup) (hk : ZbA pre.length live = true) (hv : V r = Z2 (rho live far) 3 u ∧ Zw 3 u = true) (hbl : Za8 (rho live far) bl (Po r)) : Fx P ext fn pre A V Po (some r) := by
  intro r' hr
  obtain rfl := Option.some.inj hr
  obtain ⟨s, h1, rfl, rfl, h4⟩ := Zg8 hev
  exact ⟨fu, orc, u, s, h1, ho, h4, live, hl, hn, hk, hv, Zcp hbl⟩
theorem Zln (F : Fit P ext) {f : FuncId} (hfn : P.funcs[f]? = some fn) (hb : fn.body = some (Zec fn)) (hA : Nat.ble A.size fn.ntmps = true) (hPo : ∀ r, (Po r).length ≤ far) {o : Option R} (h : Fx P ext fn pre A V Po o) {r : R} (hr : o = some r) : LSpec P f A pre (V r) (Po r) := by
  obtain ⟨fu, orc, u, s, h1, h2, h3, live, h4⟩ := h r hr
  exact ZmB F hfn hb hA h1 h2 h3 (hPo r) live h4
end
theorem Zgn {P : Program} {f : FuncId} {A A' : Array Value} {pre : List (Nat × AObj)} {v : Value} {post : List (Nat × Option AObj)} {n dn : Nat} (e : A = A') (h : ZT P f A' pre v post n dn) : ZT P f A pre v post n dn := e ▸ h
def ZgV (a b : List Int) : Bool := Za a == Za b
end Ev
end Go.Proofs.YtlbbiflodemagaaDoor
/- Rows of elements of any kind: each element so many cells. -/
namespace Go.Proofs.YtlbbiflodemagaaDoor
open Go.RowKit
namespace Ev
def Zff : List Cell → Bool
 | [] => true
 | .any :: _ => false
 | .i _ :: l => Zff l
 | .b _ :: l => Zff l
 | .k _ _ :: l => Zff l
 | .s _ :: l => Zff l
 | .m _ _ _ _ :: l => Zff l
structure Enc (α : Type) where
 cel : α → List Cell
 w : Nat
 dflt : α
 clen : ∀ a, (cel a).length = w
 sure : ∀ a, Zff (cel a) = true
def Enc.enc {α : Type} (E : Enc α) (a : α) : List Value := Zl (E.cel a)
theorem Enc.len {α : Type} (E : Enc α) (a : α) : (E.enc a).length = E.w := by unfold Enc.enc Zl; rw [List.length_map, E.clen]
def ZaX : Value → Bool
 | .pointer (some ⟨_, _, some _⟩) => true
 | .slice (some ⟨_, _, some _⟩) _ _ => true
 | v => atom v
theorem ZhK : ∀ l : List Cell, Zff l = true → Zg ZaX (Zl l) = true
 | [], _ => rfl
 | c :: l, h => by
  show (ZaX (ZaG c) && Zg ZaX (Zl l)) = true
  cases c with
  | any => cases h
  | _ => rw [ZhK l h]; rfl
theorem Enc.atoms {α : Type} (E : Enc α) (a : α) : Zg ZaX (E.enc a) = true := ZhK _ (E.sure a)
def Ze {α : Type} (E : Enc α) (L : List α) : List Value := L.flatMap E.enc
def rowC {α : Type} (E : Enc α) (L : List α) : List Cell := L.flatMap E.cel
section
variable {α : Type} {E : Enc α}
theorem Zfg : Ze E [] = [] := rfl
theorem ZaP (x : α) (L : List α) : Ze E (x :: L) = E.enc x ++ Ze E L := rfl
theorem Zkh (L M : List α) : Ze E (L ++ M) = Ze E L ++ Ze E M := by simp [Ze]
theorem ZdO : ∀ L : List α, (Ze E L).length = L.length * E.w
 | [] => by simp [Zfg]
 | x :: L => by rw [ZaP, List.length_append, ZdO L, E.len, List.length_cons, Nat.add_mul, Nat.one_mul, Nat.add_comm]
theorem ZfP : ∀ (i : Nat) (L : List α), (Ze E L).drop (i * E.w) = Ze E (L.drop i)
 | 0, L => by simp
 | i + 1, [] => by simp [Zfg]
 | i + 1, x :: L => by
  rw [ZaP, List.drop_succ_cons, ← ZfP i L, Nat.add_mul, Nat.one_mul, Nat.add_comm, ← List.drop_drop, ← E.len x, List.drop_left]
theorem ZiI : ∀ (i : Nat) (L : List α), (Ze E L).take (i * E.w) = Ze E (L.take i)
 | 0, L => by simp [Zfg]
 | i + 1, [] => by simp [Zfg]
 | i + 1, x :: L => by
  rw [ZaP, List.take_succ_cons, ZaP, ← ZiI i L, Nat.add_mul, Nat.one_mul, Nat.add_comm, List.take_append, E.len]
  rw [List.take_of_length_le (by rw [E.len]; omega), Nat.add_sub_cancel_left]
theorem ZiJ {L : List α} {i : Nat} (h : i < L.length) (d : α) : L.drop i = L.getD i d :: L.drop (i + 1) := by
 rw [List.getD_eq_getElem?_getD, List.getElem?_eq_getElem h, Option.getD_some]
 exact List.drop_eq_getElem_cons h
theorem Zlo {L : List α} {o i q : Nat} (hi : i < L.length) (ho : o = i * E.w + q) (hq : q ≤ E.w) : (Ze E L).drop o = (E.enc (L.getD i E.dflt)).drop q ++ Ze E (L.drop (i + 1)) := by
 subst ho
 rw [← List.drop_drop, ZfP, ZiJ hi E.dflt, ZaP, List.drop_append, E.len, Nat.sub_eq_zero_of_le hq, List.drop_zero]
theorem Zki {β : Type} : ∀ (m : Nat) (l : List β), m ≤ l.length → Zt m l = some (l.take m)
 | 0, l, _ => by simp [Zt]
 | m + 1, [], h => by simp at h
 | m + 1, x :: l, h => by
  simp only [Zt]
  rw [Zki m l (by simpa using h)]
  rfl
theorem ZnF {L : List α} {o i q : Nat} {l : List Value} (x : α) (hi : i < L.length) (ho : o = i * E.w + q) (hq : q + l.length ≤ E.w) (hx : Zcf (E.enc (L.getD i E.dflt)) q l = E.enc x) : o + l.length ≤ (Ze E L).length ∧ Zcf (Ze E L) o l = Ze E (L.set i x) := by
 have hl := E.len (L.getD i E.dflt)
 have hle : o + l.length ≤ (Ze E L).length := by
  have : (i + 1) * E.w ≤ L.length * E.w := Nat.mul_le_mul_right _ hi
  rw [Nat.add_mul, Nat.one_mul] at this
  rw [ZdO]; omega
 refine ⟨hle, ?_⟩
 have e1 : L.set i x = L.take i ++ x :: L.drop (i + 1) := by rw [List.set_eq_take_append_cons_drop, if_pos hi]
 rw [e1, Zkh, ZaP, ← hx]
 unfold Zcf
 have h1 : (Ze E L).take o = Ze E (L.take i) ++ (E.enc (L.getD i E.dflt)).take q := by
  have hd : Ze E L = Ze E (L.take i) ++ (E.enc (L.getD i E.dflt) ++ Ze E (L.drop (i + 1))) := by
   rw [← ZaP, ← ZiJ hi, ← Zkh, List.take_append_drop]
  rw [hd, List.take_append]
  have hlen : (Ze E (L.take i)).length = i * E.w := by rw [ZdO, List.length_take]; rw [Nat.min_eq_left (by omega)]
  rw [List.take_of_length_le (by omega), hlen, show o - i * E.w = q by omega, List.take_append]
  rw [show q - (E.enc (L.getD i E.dflt)).length = 0 by omega, List.take_zero, List.append_nil]
 have h2 : (Ze E L).drop (o + l.length) = (E.enc (L.getD i E.dflt)).drop (q + l.length) ++ Ze E (L.drop (i + 1)) := Zlo hi (by omega) hq
 rw [h1, h2]
 simp
theorem ZnG {L R : List α} {o a n m : Nat} (ha : a + n ≤ L.length) (ho : o = a * E.w) (hm : m = n * E.w) (hR : (L.drop a).take n = R) : Zt m ((Ze E L).drop o) = some (Ze E R) := by
 subst ho hm hR
 rw [ZfP, Zki, ZiI]
 rw [ZdO, List.length_drop]
 exact Nat.mul_le_mul_right _ (by omega)
theorem ZmR {L : List α} (j : Nat) (hw : 0 < E.w) : (Ze E L)[j]? = if h : j / E.w < L.length then (E.enc (L[j / E.w]'h))[j % E.w]? else none := by
 by_cases h : j / E.w < L.length
 ·rw [dif_pos h]
  have hj : j = (j / E.w) * E.w + j % E.w := by rw [Nat.mul_comm]; exact (Nat.div_add_mod j E.w).symm
  have hr : j % E.w < E.w := Nat.mod_lt _ hw
  have := Zlo (E := E) h hj (Nat.le_of_lt hr)
  have h0 : ((Ze E L).drop j)[0]? = (Ze E L)[j]? := by rw [List.getElem?_drop]; rfl
  rw [← h0, this, List.getElem?_append_left (by rw [List.length_drop, E.len]; omega), List.getElem?_drop, Nat.add_zero]
  rw [List.getD_eq_getElem?_getD, List.getElem?_eq_getElem h, Option.getD_some]
 ·rw [dif_neg h, List.getElem?_eq_none]
  rw [ZdO]
  have : L.length ≤ j / E.w := by omega
  exact (Nat.le_div_iff_mul_le hw).1 this
theorem ZnH {z : List Value} (x : α) (n : Nat) (hw : 0 < E.w) (hz : E.enc x = z) {m : Nat} (hm : m = n * E.w) : rep z m = Ze E (List.replicate n x) := by
 subst hz hm
 apply List.ext_getElem?
 intro j
 rw [ZmR j hw]
 have hl := E.len x
 by_cases h : j < n * E.w
 ·have h' : j / E.w < n := (Nat.div_lt_iff_lt_mul hw).2 h
  rw [dif_pos (by simpa using h')]
  have : (rep (E.enc x) (n * E.w))[j]? = some ((E.enc x).getD (j % (E.enc x).length) undef) := by simp [rep, h]
  rw [this, List.getElem_replicate, hl, List.getD_eq_getElem?_getD]
  have hr : j % E.w < (E.enc x).length := by rw [hl]; exact Nat.mod_lt _ hw
  rw [List.getElem?_eq_getElem hr, Option.getD_some]
 ·rw [dif_neg (by simp; exact (Nat.le_div_iff_mul_le hw).2 (by omega)), List.getElem?_eq_none]
  simp [rep]; omega
/-! ### The same, as told cells -/
/-! ### Such a row is a row of atoms -/
theorem Zee : ∀ L : List α, Zg ZaX (Ze E L) = true
 | [] => rfl
 | x :: L => by
  have app : ∀ (a b : List Value), Zg ZaX a = true → Zg ZaX b = true → Zg ZaX (a ++ b) = true := by
   intro a b ha hb
   induction a with
   | nil => exact hb
   | cons y a ih =>
    simp only [Zg, Bool.and_eq_true] at ha
    show (ZaX y && Zg ZaX (a ++ b)) = true
    rw [ha.1, ih ha.2]; rfl
  rw [ZaP]
  exact app _ _ (E.atoms x) (Zee L)
theorem ZgW {p q : Value → Bool} (h : ∀ v, p v = true → q v = true) : ∀ {l : List Value}, Zg p l = true → Zg q l = true
 | [], _ => rfl
 | x :: l, hl => by
  simp only [Zg, Bool.and_eq_true] at hl ⊢
  exact ⟨h x hl.1, ZgW h hl.2⟩
theorem Zeq {v : Value} (h : ZaX v = true) : (∃ k o z, v = .pointer (some ⟨k, o, some z⟩)) ∨ (∃ k o z n c, v = .slice (some ⟨k, o, some z⟩) n c) ∨ atom v = true := by
 unfold ZaX at h
 split at h
 ·exact .inl ⟨_, _, _, rfl⟩
 ·exact .inr (.inl ⟨_, _, _, _, _, rfl⟩)
 ·exact .inr (.inr h)
theorem Zkj (d : Nat) {v : Value} (h : ZaX v = true) : Zw d v = true := by
 rcases Zeq h with ⟨k, o, z, rfl⟩ | ⟨k, o, z, n, c, rfl⟩ | h
 ·cases d <;> rfl
 ·cases d <;> rfl
 ·cases v with
  | agg => simp [atom] at h
  | tuple => simp [atom] at h
  | func f a b =>
   cases f with
   | func f =>
    simp only [atom, Bool.and_eq_true, Array.isEmpty_iff] at h
    obtain ⟨rfl, rfl⟩ := h
    cases d <;> rfl
   | _ => simp [atom] at h
  | _ => cases d <;> rfl
theorem Zmc (m d : Nat) {v : Value} (h : ZaX v = true) : ZQ m d v = true := by
 rcases Zeq h with ⟨k, o, z, rfl⟩ | ⟨k, o, z, n, c, rfl⟩ | h
 ·cases d <;> rfl
 ·cases d <;> rfl
 ·cases v with
  | agg => simp [atom] at h
  | tuple => simp [atom] at h
  | pointer a => cases a with
   | none => cases d <;> exact h
   | some a => simp [atom] at h
  | slice a n c => cases a with
   | none => cases d <;> exact h
   | some a => simp [atom] at h
  | map a => cases a with
   | none => cases d <;> exact h
   | some a => simp [atom] at h
  | _ => cases d <;> exact h
theorem Zmd {ρ : Nat → Nat} (d : Nat) {v : Value} (h : ZaX v = true) : Z2 ρ d v = v := by
 rcases Zeq h with ⟨k, o, z, rfl⟩ | ⟨k, o, z, n, c, rfl⟩ | h
 ·cases d <;> rfl
 ·cases d <;> rfl
 ·exact ZcX d h
theorem Zik (ρ : Nat → Nat) (d : Nat) (L : List α) : (Ze E L).map (Z2 ρ d) = Ze E L := by
 have : ∀ l : List Value, Zg ZaX l = true → l.map (Z2 ρ d) = l := fun l => by
  induction l with
  | nil => intro _; rfl
  | cons y l ih =>
   intro h
   simp only [Zg, Bool.and_eq_true] at h
   rw [List.map_cons, ih h.2, Zmd d h.1]
 exact this _ (Zee L)
theorem Zg9 (d : Nat) (L : List α) : Zg (Zw d) (Ze E L) = true := ZgW (fun _ => Zkj d) (Zee L)
theorem ZZ (m d : Nat) (L : List α) : Zg (ZQ m d) (Ze E L) = true := ZgW (fun _ => Zmc m d) (Zee L)
theorem Zkk (ρ : Nat → Nat) (L : List α) (t : TypeId) : ZcK ρ (.cells (Ze E L) t) (.cells (Ze E L) t) := ⟨rfl, ⟨[], by rw [Zik, List.append_nil]⟩, Zg9 1 L⟩
end
def Za9 (k : IntKind) : Enc Int := ⟨fun n => match k with | .i64 => [.i n] | k => [.k k n], 1, 0, fun _ => by cases k <;> rfl, fun _ => by cases k <;> rfl⟩
abbrev eI : Enc Int := Za9 .i64
abbrev vi (x : Int) : Value := .int .i64 x
abbrev vs (k o n c : Nat) : Value := .slice (some ⟨k, o, none⟩) n c
abbrev vp (k o : Nat) : Value := .pointer (some ⟨k, o, none⟩)
theorem bT {a b : Int} (h : a = b) : (a == b) = true := beq_iff_eq.2 h
/-! ### Rows that never change -/
noncomputable abbrev ms {α : Type} (E : Enc α) (L : List α) : Value := .slice (some ⟨code (rowC E L), 0, some 0⟩) L.length L.length
noncomputable abbrev mp {α : Type} (E : Enc α) (L : List α) (o : Nat) : Value := .pointer (some ⟨code (rowC E L), o, some 0⟩)
/-! ### Bytes as strings -/
theorem Zlp : ∀ L : List Int, Ze (Za9 .u8) L = L.map (Value.int .u8)
 | [] => rfl
 | x :: L => by rw [ZaP, Zlp L]; rfl
theorem ZeI {L R : List Int} {o a n : Nat} (ha : a + n ≤ L.length) (ho : o = a * 1) (hR : (L.drop a).take n = R) : Zt n ((Ze (Za9 .u8) L).drop o) = some (R.map (Value.int .u8)) := by
 rw [← Zlp]
 exact ZnG (E := Za9 .u8) ha ho (show n = n * 1 from (Nat.mul_one n).symm) hR
end Ev
end Go.Proofs.YtlbbiflodemagaaDoor
/- Arguments that are slices, opened: the block they lie in, and each element as what is read of it. -/
namespace Go.Proofs.YtlbbiflodemagaaDoor
open Go.ChangeShapes Go.WideShapes Go.ChangeAt Go.RowKit Go.Deep
namespace Ev
section
variable {H : Type} {enc : TypeId × Value → H} {P : Program} {w : World}
def DecL (w : World) (cs : List Value) (l : List Cell) : Prop := cs.length = l.length ∧ ∀ (i : Nat) x y, l[i]? = some x → cs[i]? = some y → DecC w x y
theorem DecL.vr {w : World} {cs : List Value} {l : List Cell} (h : DecL w cs l) : VRs (ιMk w) (Zl l).toArray cs.toArray :=
 ⟨by simp [Zl, h.1], fun i x y hx hy => by
  have hx' : (Zl l)[i]? = some x := by simpa using hx
  have hy' : cs[i]? = some y := by simpa using hy
  unfold Zl at hx'
  rw [List.getElem?_map] at hx'
  cases hb : l[i]? with
  | none => rw [hb] at hx'; cases hx'
  | some z =>
   rw [hb] at hx'
   injection hx' with hx'
   subst hx'
   exact (h.2 i z y hb hy').vr⟩
/-! ### Parts of a value, by where they lie among its cells -/
end
end Ev
end Go.Proofs.YtlbbiflodemagaaDoor
/- Functions told of whole runs: their own loops run on. -/
namespace Go.Proofs.YtlbbiflodemagaaDoor
open Go.RowKit
namespace Ev
section
variable {P : Program} {ext : FuncId → Option Ext} {pre : List AObj} {A : Array Value} {R : Type} {V : R → Value} {Po : R → List (Option AObj)} {live : List Nat} {bl : List (Option AObj)} {ob : List (Bool × Bool)} {fu : Nat} {orc : Orc}
noncomputable def Zkl (P : Program) (ext : FuncId → Option Ext) (f : FuncId) (pre : List AObj) (A : Array Value) (fu : Nat) (orc : Orc) : Option Stop :=
 match Za5 P ext fu f A ⟨Zbx 0 pre, pre.length, [], orc, []⟩ with
 | some (v, s) => some (.fin v s)
 | none => none
theorem ZkM (F : Fit P ext) {f : FuncId} {v u : Value} {post : List (Option AObj)} {s : St} (hev : Zkl P ext f pre A fu orc = some (.fin u s)) (ho : ∀ p ∈ s.ob, p.1 = p.2) (hn : s.n ≤ far) (hle : post.length ≤ far) (live : List Nat) (h : Zhz pre.length v post u s live) : LSpec P f A pre v post := by
 intro ι w args' hd ha he
 have hc : Za5 P ext fu f A ⟨Zbx 0 pre, pre.length, [], orc, []⟩ = some (u, s) := by
  unfold Zkl at hev
  split at hev
  ·rename_i v1 s1 h1
   injection hev with hev
   injection hev with q1 q2
   rw [h1, q1, q2]
  ·cases hev
 have hF := (Zai (P := P) F fu).2.2.2.1 f A _ u s hc ho ι w args' ha (by show Emb P ι (Zbx 0 pre).get w; rw [ZcH]; exact he)
  ⟨hn, fun k h1 h2 => by
   cases hk : ι k with
   | none => rfl
   | some b => exact absurd (hd k (by rw [hk]; simp)) (by have h3 : pre.length ≤ k := h1; have h4 : s.n ≤ 1000000000 := hn; have h5 : k < s.n := h2; unfold ZbT; omega)⟩
 refine hF.mono ?_
 rintro e w' ⟨v', ι', rfl, g1, g2, g3⟩
 exact Zh0 hle hd h (by have := g1; simp only [ZcH] at this; exact this) g3
def Gx (P : Program) (f : FuncId) (pre : List AObj) (A : Array Value) {R : Type} (V : R → Value) (Po : R → List (Option AObj)) (o : Option R) : Prop :=
 ∀ r, o = some r → LSpec P f A pre (V r) (Po r)
variable {f : FuncId}
theorem ZmS (F : Fit P ext) {r : R} {u : Value} (hev : ZhJ live (Zkl P ext f pre A fu orc) = some (u, bl, ob)) (ho : ∀ p ∈ ob, p.1 = p.2) (hl : live.length = (Po r).length) (hn : live.Nodup) (hk : ZbA pre.length live = true) (hv : V r = Z2 (rho live far) 3 u ∧ Zw 3 u = true) (hbl : Za8 (rho live far) bl (Po r)) (hle : (Po r).length ≤ far) : Gx P f pre A V Po (some r) := by
 intro r' hr
 obtain rfl := Option.some.inj hr
 obtain ⟨s, h1, rfl, rfl, h4⟩ := Zg8 hev
 exact ZkM F h1 ho h4 hle live ⟨hl, hn, hk, hv, Zcp hbl⟩
end
end Ev
end Go.Proofs.YtlbbiflodemagaaDoor
/- Strings, as lists of their bytes. -/
namespace Go.Proofs.YtlbbiflodemagaaDoor
open Go.RowKit
namespace Ev
set_option linter.unusedVariables false
abbrev bl (l : List Int) : List Int := l
theorem ZR (l : List Int) : (Za l).size = l.length := by
 show (Za l).data.size = l.length
 rw [Za7]; simp [u8s]
theorem catS (a b : List Int) : Za a ++ Za b = Za (a ++ b) := by
 apply ByteArray.ext
 rw [ByteArray.data_append, Za7, Za7, Za7]; simp [u8s]
theorem sE {a b : ByteArray} (h : a = b := by first | (simp only [catS]; done) | (simp only [catS, bl, List.append_assoc, List.cons_append, List.nil_append, List.append_nil]; done) | rfl) : a = b := h
theorem Zcq {a b : ByteArray} {x y : List Int} (h1 : a = Za x) (h2 : b = Za y) (h : x.length + y.length ≤ 1000000) : ((a.size + b.size : Nat) : Int) ≤ IntKind.i64.max := by
 rw [h1, h2, ZR, ZR]
 have : IntKind.i64.max = 9223372036854775807 := by decide
 omega
end Ev
end Go.Proofs.YtlbbiflodemagaaDoor
/- Rows that may lack, at a head; strings within rows; parts of strings. -/
namespace Go.Proofs.YtlbbiflodemagaaDoor
open Go.RowKit
namespace Ev
set_option linter.unusedVariables false
section
variable {α : Type} {E : Enc α}
theorem ZB (ρ : Nat → Nat) (L : List α) (t : TypeId) : ZcK ρ (.cells (Ze E L) t true) (.cells (Ze E L) t true) := ⟨rfl, by rw [Zik], Zg9 1 L⟩
theorem ZaQ (ρ : Nat → Nat) (L : List α) (t : TypeId) : AObj.cells (Ze E L) t true = ZdM ρ (.cells (Ze E L) t true) := by
 show _ = AObj.cells ((Ze E L).map (Z2 ρ 1)) t true
 rw [Zik]
theorem wk_c {c c' : List Value} {t : TypeId} (h : WkC c c') : WkO (some (.cells c t)) (some (.cells c' t)) := .inr (.inl ⟨_, _, _, _, rfl, rfl, h⟩)
end
theorem bEq {a b : ByteArray} : (a == b) = true ↔ a = b := by
 constructor
 ·intro h
  cases a; cases b
  congr 1
  exact eq_of_beq (show (_ == _) = true from h)
 ·intro h
  subst h
  show (a.data == a.data) = true
  simp
theorem Zox {P : Program} {e : FuncId → Option Ext} {f : FuncId} {g : Array Value → St → Out} (F : Fit P e) (D : Zbu P f g) : Fit P (fun x => bif Nat.beq x f then some (.hp g) else e x) :=
 have cs : ∀ {x : Nat} {y : Ext}, (bif Nat.beq x f then some (.hp g) else e x) = some y → (x = f ∧ y = .hp g) ∨ e x = some y := fun {x y} h => by
  cases hb : Nat.beq x f with
  | true => rw [hb] at h; injection h with h; exact .inl ⟨Nat.eq_of_beq_eq_true hb, h.symm⟩
  | false => rw [hb] at h; exact .inr h
 ⟨F.mixed, F.go, fun x g' h => (cs h).elim (fun q => by cases q.2) (F.fn x g'), fun x g' h => (cs h).elim (fun q => by obtain ⟨rfl, q2⟩ := q; injection q2 with q2; subst q2; exact D) (F.hp x g'), fun x S h => (cs h).elim (fun q => by cases q.2) (F.tc x S), fun x n h => (cs h).elim (fun q => by cases q.2) (F.mark x n), fun x k y h => (cs h).elim (fun q => by cases q.2) (F.ext x k y)⟩
def ZaC : Enc (List Int) := ⟨fun l => [.s (Za l)], 1, [], fun _ => rfl, fun _ => rfl⟩
theorem sSl {x : ByteArray} {M R : List Int} {l h : Int} (hx : x = Za M) (h0 : 0 ≤ l) (h1 : l ≤ h) (h2 : h ≤ (M.length : Int)) (hR : R = (M.drop l.toNat).take (h.toNat - l.toNat)) :
  0 ≤ l ∧ l ≤ h ∧ h ≤ (x.size : Int) ∧ x.extract l.toNat h.toNat = Za R := by
 subst hx hR
 refine ⟨h0, h1, by rw [ZR]; exact h2, ?_⟩
 apply ByteArray.ext
 rw [ByteArray.data_extract, Za7, Za7]
 simp [u8s, List.map_take, List.map_drop, List.take_drop]
 first | done | omega | (congr 1; omega)
theorem ZnI (b : ByteArray) : ∃ L : List Int, b = Za L ∧ ZM L = true := ⟨Zfb b, Zi9 b, ZhB b⟩
end Ev
end Go.Proofs.YtlbbiflodemagaaDoor
/- awake's parts. -/
namespace Go.Proofs.YtlbbiflodemagaaDoor
open Go.RowKit
namespace Ev
set_option linter.unusedVariables false
def ZhL : List Value := [.int .i64 9, .int .i64 1, .int .i64 0, .int .i64 0, .int .i64 20, .int .i64 0, .int .i64 0, .int .i64 0]
theorem Zme : LSpec Tryd.prog 9 #[Value.string ⟨#[58, 97, 103, 97, 105, 110, 10, 106, 117, 109, 112, 122, 32, 114, 49, 32, 64, 97, 103, 97, 105, 110, 10, 104, 97, 108, 116, 10]⟩] [] (.tuple #[.slice (some ⟨0, 0, none⟩) 2 2, .int .i64 0, .int .i64 0]) [some (.cells ZhL 24)] := by
 refine (ZmS fit (R := Unit) (r := ()) (V := fun _ => .tuple #[.slice (some ⟨0, 0, none⟩) 2 2, .int .i64 0, .int .i64 0]) (Po := fun _ => [some (.cells ZhL 24)]) (fu := 3000) (orc := ⟨[], [], [], [], []⟩) (live := [82]) (u := .tuple #[.slice (some ⟨82, 0, none⟩) 2 2, .int .i64 0, .int .i64 0]) (bl := [some (.cells ZhL 24)]) (ob := []) (by kernel_rfl) (by intro p hp; cases hp) rfl (by decide) (by rfl) ⟨by rfl, by rfl⟩ ?_ (by decide)) () rfl
 exact ⟨⟨rfl, ⟨[], rfl⟩, rfl⟩, trivial⟩
end Ev
end Go.Proofs.YtlbbiflodemagaaDoor
/- awake's parts. -/
namespace Go.Proofs.YtlbbiflodemagaaDoor
open Go.RowKit
namespace Ev
set_option linter.unusedVariables false
theorem Zmf : LSpec Tryd.prog 9 #[Value.string ⟨#[10, 104, 97, 108, 116, 32, 114, 49, 10]⟩] [] (.tuple #[.slice none 0 0, .int .i64 2, .int .i64 130]) [] := by
 exact (ZmS fit (R := Unit) (r := ()) (V := fun _ => .tuple #[.slice none 0 0, .int .i64 2, .int .i64 130]) (Po := fun _ => []) (fu := 3000) (orc := ⟨[], [], [], [], []⟩) (live := []) (u := .tuple #[.slice none 0 0, .int .i64 2, .int .i64 130]) (bl := []) (ob := []) (by kernel_rfl) (by intro p hp; cases hp) rfl (by decide) (by rfl) ⟨by rfl, by rfl⟩ trivial (by decide)) () rfl
end Ev
end Go.Proofs.YtlbbiflodemagaaDoor
/- awake's parts. -/
namespace Go.Proofs.YtlbbiflodemagaaDoor
open Go.RowKit
namespace Ev
set_option linter.unusedVariables false
noncomputable def ZkN (n : Nat) : Zce := .call [] (.tuple #[.slice (some ⟨n, 0, none⟩) 2 2, .int .i64 0, .int .i64 0]) [(n, some (.cells ZhL 24))] 1
def Zkm (n : Nat) : Prop := ZT Tryd.prog 9 #[Value.string ⟨#[58, 97, 103, 97, 105, 110, 10, 106, 117, 109, 112, 122, 32, 114, 49, 32, 64, 97, 103, 97, 105, 110, 10, 104, 97, 108, 116, 10]⟩] [] (.tuple #[.slice (some ⟨n, 0, none⟩) 2 2, .int .i64 0, .int .i64 0]) [(n, some (.cells ZhL 24))] n 1
theorem ZmT (n : Nat) : Zkm n :=
 LSpec.callL Zme [] n [0] rfl (by decide) (fun k hk => by cases hk) (by decide) (by decide) (by rfl) trivial (by rfl) ⟨by rfl, trivial⟩ ⟨by decide, trivial⟩ rfl rfl rfl rfl rfl
noncomputable def ZkO : Zce := .call [] (.tuple #[.slice none 0 0, .int .i64 2, .int .i64 130]) [] 0
def Zkn (n : Nat) : Prop := ZT Tryd.prog 9 #[Value.string ⟨#[10, 104, 97, 108, 116, 32, 114, 49, 10]⟩] [] (.tuple #[.slice none 0 0, .int .i64 2, .int .i64 130]) [] n 0
theorem ZmU (n : Nat) : Zkn n :=
 LSpec.callL Zmf [] n [] rfl (by decide) (fun k hk => by cases hk) (by decide) (by decide) (by rfl) trivial (by rfl) trivial trivial rfl rfl rfl rfl rfl
end Ev
end Go.Proofs.YtlbbiflodemagaaDoor
/- Records, and the program's functions as plain ones. -/
namespace Go.Proofs.YtlbbiflodemagaaDoor
open Go.RowKit
namespace Ev
set_option linter.unusedVariables false
inductive Zbj where
 | r0

def Zer  (N : Nat) : Option Zbj :=
 some (.r0 : Zbj)
end Ev
end Go.Proofs.YtlbbiflodemagaaDoor
/- How records are written, and which functions are told. -/
namespace Go.Proofs.YtlbbiflodemagaaDoor
open Go.RowKit
namespace Ev
set_option linter.unusedVariables false
theorem toL_inj {a b : ByteArray} : (a.toList == b.toList) = (a == b) := (beq_toListBytes a b).symm
theorem ZmV (ns : List Int) : ∀ acc : ByteArray, (ns.foldl (fun r n => r.push (UInt8.ofNat n.toNat)) acc).data = acc.data ++ (ns.map fun n => UInt8.ofNat n.toNat).toArray := by
 induction ns with
 | nil => intro acc; simp
 | cons n ns ih => intro acc; rw [List.foldl_cons, ih]; simp [ByteArray.push]
theorem Zdv (ns : List Int) : (Za ns).data = (ns.map fun n => UInt8.ofNat n.toNat).toArray := by
 unfold Za; rw [ZmV]; simp
theorem Zdc (a b : List Int) : Za a ++ Za b = Za (a ++ b) := by
 apply ByteArray.ext
 rw [ByteArray.data_append, Zdv, Zdv, Zdv]; simp
theorem ZN {x y : List Int} (h : x.length + y.length ≤ 1000000) : (((Za x).size + (Za y).size : Nat) : Int) ≤ IntKind.i64.max := by
 have e : ∀ l : List Int, (Za l).size = l.length := fun l => by
  show (Za l).data.size = l.length
  rw [Zdv]; simp
 rw [e, e]
 have : IntKind.i64.max = 9223372036854775807 := by decide
 omega
theorem ZmW {x y : List Int} (h : ZgV x y = true) : ((Za x).toList == (Za y).toList) = true := toL_inj.trans h
theorem ZoG {x y : List Int} (h : ¬ (ZgV x y = true)) : ((Za x).toList == (Za y).toList) = false := toL_inj.trans (Bool.eq_false_iff.2 h)
theorem ZoH {x y : List Int} (h : ¬ (ZgV x y = true)) : (!((Za x).toList == (Za y).toList)) = true := by rw [ZoG h]; rfl
theorem ZoI {x y : List Int} (h : ZgV x y = true) : (!((Za x).toList == (Za y).toList)) = false := by rw [ZmW h]; rfl
theorem sm {ρ : Nat → Nat} {o p : AObj} (h : ZcK ρ o p := by exact ⟨rfl, ⟨[], by rfl⟩, by rfl⟩) : ZcK ρ o p := h
abbrev vq : Value := .int .i64 0
abbrev vf : Value := .bool false
abbrev vT : Value := .bool true
abbrev vn : Value := .slice none 0 0
abbrev vtt : Value := .tuple #[]
noncomputable abbrev dS {α : Type} (a : α) : Bool := dP (a = a)
theorem ltA {p : Prop} (h : p := by first | omega | (simp only [List.length_set, List.length_append, List.length_cons, List.length_nil, List.length_replicate, List.length_take, List.length_drop] at * <;> omega)) : p := h
theorem eqA {p : Prop} (h : p := by first | rfl | omega | (simp only [List.length_set, List.length_append, List.length_cons, List.length_nil, List.length_replicate, List.length_take, List.length_drop] at * <;> omega)) : p := h
theorem rr {p q : Prop} (h : p := by rfl) (h2 : q := by rfl) : p ∧ q := ⟨h, h2⟩
section
variable {l : List (Bool × Bool)}
theorem oY {p : Prop} [Decidable p] (hl : ∀ q ∈ l, q.1 = q.2) (h : p := by omega) : ∀ q ∈ (decide p, true) :: l, q.1 = q.2 := Zf (decide_eq_true h) hl
theorem oN {p : Prop} [Decidable p] (hl : ∀ q ∈ l, q.1 = q.2) (h : ¬ p := by omega) : ∀ q ∈ (decide p, false) :: l, q.1 = q.2 := Zf (decide_eq_false h) hl
theorem oR {α : Type} {a b : α} (hl : ∀ q ∈ l, q.1 = q.2) (h : a = b := by rfl) : ∀ q ∈ (dP (a = b), true) :: l, q.1 = q.2 := Zf (Zs h) hl
theorem oB {a b : Nat} (hl : ∀ q ∈ l, q.1 = q.2) (h : a < b := by omega) : ∀ q ∈ (Nat.blt a b, true) :: l, q.1 = q.2 := Zf (ZoD h) hl
theorem oI {a b : Int} (hl : ∀ q ∈ l, q.1 = q.2) (h : a = b := by first | rfl | exact ZoC (by omega)) : ∀ q ∈ ((a == b), true) :: l, q.1 = q.2 := Zf (bT h) hl
end
def ZnU : FuncId → Bool := fun f => Nat.beq f 9 || Nat.beq f 8
noncomputable def ZmX : FuncId → Option Ext := Zih (ZlY ZjV) ZnU
theorem ZoJ : Fit Tryd.prog ZmX := ZnC (ZnB Zgl) (fun f h => by
 simp only [ZnU, Bool.or_eq_true] at h
 simp only [Nat.beq_eq] at h
 rcases h with rfl | rfl
 ·exact ⟨_, _, Tryd.func9, rfl⟩
 ·exact ⟨_, _, Tryd.func8, rfl⟩
 )
end Ev
end Go.Proofs.YtlbbiflodemagaaDoor
/- Calls do what the plain functions say. -/
namespace Go.Proofs.YtlbbiflodemagaaDoor
open Go.RowKit
namespace Ev
set_option linter.unusedVariables false
set_option maxRecDepth 100000
noncomputable def ZfQ  : Zbj → Value
 | .r0 => vT
noncomputable def Zfn  : Zbj → List (Option AObj)
 | .r0 => []

theorem Zil  (N : Nat) : Fx Tryd.prog ZmX Tryd.f8 [] #[] (ZfQ ) (Zfn ) (Zer  N) := by
 unfold Zer
 exact Zkg (r := (.r0 : Zbj)) (fu := 4000) (orc := (ZbV [] [] [] [] [(0, (ZkN 0)), (40, ZkO)])) (live := []) (u := vT) (bl := []) (ob := [(dP (Zkn 50), true), (dP (((((Za ([(104 : Int), (97 : Int), (108 : Int), (116 : Int)] : List Int))).size + ((Za ([(10 : Int)] : List Int))).size : Nat) : Int) ≤ IntKind.i64.max), true), (dP (((((Za ([(106 : Int), (117 : Int), (109 : Int), (112 : Int), (122 : Int), (32 : Int), (114 : Int), (49 : Int), (32 : Int), (64 : Int), (76 : Int), (48 : Int)] : List Int))).size + ((Za ([(10 : Int)] : List Int))).size : Nat) : Int) ≤ IntKind.i64.max), true), (dP (((((Za ([(64 : Int)] : List Int))).size + ((Za ([(76 : Int), (48 : Int)] : List Int))).size : Nat) : Int) ≤ IntKind.i64.max), true), (dP (((((Za ([(76 : Int)] : List Int))).size + ((Za ([(48 : Int)] : List Int))).size : Nat) : Int) ≤ IntKind.i64.max), true), (dP (((((Za ([(114 : Int)] : List Int))).size + ((Za ([(49 : Int)] : List Int))).size : Nat) : Int) ≤ IntKind.i64.max), true), (dP (((((Za ([(58 : Int), (76 : Int), (48 : Int)] : List Int))).size + ((Za ([(10 : Int)] : List Int))).size : Nat) : Int) ≤ IntKind.i64.max), true), (dP (((((Za ([(58 : Int)] : List Int))).size + ((Za ([(76 : Int), (48 : Int)] : List Int))).size : Nat) : Int) ≤ IntKind.i64.max), true), (dP (((((Za ([(76 : Int)] : List Int))).size + ((Za ([(48 : Int)] : List Int))).size : Nat) : Int) ≤ IntKind.i64.max), true), (dP (Zkm 0), true)]) (by kernel_rfl) (Zf (Zs (ZmU 50)) <| Zf (Zs (by first | exact ZN (x := ([(104 : Int), (97 : Int), (108 : Int), (116 : Int)] : List Int)) (y := ([(10 : Int)] : List Int)) ltA | (simp only [Zdc, List.append_nil, List.nil_append]; exact ZN ltA))) <| Zf (Zs (by first | exact ZN (x := ([(106 : Int), (117 : Int), (109 : Int), (112 : Int), (122 : Int), (32 : Int), (114 : Int), (49 : Int), (32 : Int), (64 : Int), (76 : Int), (48 : Int)] : List Int)) (y := ([(10 : Int)] : List Int)) ltA | (simp only [Zdc, List.append_nil, List.nil_append]; exact ZN ltA))) <| Zf (Zs (by first | exact ZN (x := ([(64 : Int)] : List Int)) (y := ([(76 : Int), (48 : Int)] : List Int)) ltA | (simp only [Zdc, List.append_nil, List.nil_append]; exact ZN ltA))) <| Zf (Zs (by first | exact ZN (x := ([(76 : Int)] : List Int)) (y := ([(48 : Int)] : List Int)) ltA | (simp only [Zdc, List.append_nil, List.nil_append]; exact ZN ltA))) <| Zf (Zs (by first | exact ZN (x := ([(114 : Int)] : List Int)) (y := ([(49 : Int)] : List Int)) ltA | (simp only [Zdc, List.append_nil, List.nil_append]; exact ZN ltA))) <| Zf (Zs (by first | exact ZN (x := ([(58 : Int), (76 : Int), (48 : Int)] : List Int)) (y := ([(10 : Int)] : List Int)) ltA | (simp only [Zdc, List.append_nil, List.nil_append]; exact ZN ltA))) <| Zf (Zs (by first | exact ZN (x := ([(58 : Int)] : List Int)) (y := ([(76 : Int), (48 : Int)] : List Int)) ltA | (simp only [Zdc, List.append_nil, List.nil_append]; exact ZN ltA))) <| Zf (Zs (by first | exact ZN (x := ([(76 : Int)] : List Int)) (y := ([(48 : Int)] : List Int)) ltA | (simp only [Zdc, List.append_nil, List.nil_append]; exact ZN ltA))) <| Zf (Zs (ZmT 0)) Zag) rfl (by decide) (by rfl) rr trivial

theorem ZgX  (N : Nat) (r : Zbj) (h : Zer  N = some r) : LSpec Tryd.prog 8 #[] [] (ZfQ  r) (Zfn  r) :=
 Zln ZoJ Tryd.func8 (by kernel_rfl) (by kernel_rfl) (fun r => by cases r <;> exact Zdb _ rfl) (Zil  N) h

end Ev
end Go.Proofs.YtlbbiflodemagaaDoor
/- awake's parts. -/
namespace Go.Proofs.YtlbbiflodemagaaDoor
open Go.RowKit
namespace Ev
set_option linter.unusedVariables false
theorem Zoy (w : World) (ht : TabW w) : Calls Tryd.prog 8 #[] w (Ret (.bool true) w) :=
 ZmN (ZgX 0 .r0 rfl) Zla rfl
end Ev
end Go.Proofs.YtlbbiflodemagaaDoor
/- Records, and the program's functions as plain ones. -/
namespace Go.Proofs.YtlbbiflodemagaaDoor
open Go.RowKit
namespace Ev
set_option linter.unusedVariables false
structure RA where
 a0 : Int
 a1 : Int
 a2 : Int
 a3 : Int
def RA.z : RA := ⟨0, 0, 0, 0⟩
structure R_is where
 a0 : Int
 a1 : List Int
def R_is.z : R_is := ⟨0, []⟩
structure R_si where
 a0 : List Int
 a1 : Int
def R_si.z : R_si := ⟨[], 0⟩
inductive Z9 where
 | r0

inductive asm_reader_aimX where
 | h1m0

def Zam (L0 : List Int) (a1 : Int) (L2 : List RA) (L3 : List Int) (L4 : List R_is) (L5 : List (List Int)) (L6 : List R_si) (N : Nat) : Option (asm_reader_aimX ⊕ Z9) :=
 if (0 : Int) < (L2.length : Int) then
  none
 else
 some (.inr (.r0 : Z9))

def ZaR (L0 : List Int) (a1 : Int) (L2 : List RA) (L3 : List Int) (L4 : List R_is) (L5 : List (List Int)) (L6 : List R_si) (N : Nat) : asm_reader_aimX → Option (asm_reader_aimX ⊕ Z9)
 | .h1m0 => Zam L0 a1 L2 L3 L4 L5 L6 N

def Zb1 (L0 : List Int) (a1 : Int) (L2 : List RA) (L3 : List Int) (L4 : List R_is) (L5 : List (List Int)) (L6 : List R_si) (N : Nat) : Option (asm_reader_aimX ⊕ Z9) :=
 some (.inl (.h1m0 : asm_reader_aimX))

def ZbR (L0 : List Int) (a1 : Int) (L2 : List RA) (L3 : List Int) (L4 : List R_is) (L5 : List (List Int)) (L6 : List R_si) (N : Nat) : Option Z9 := goM (ZaR L0 a1 L2 L3 L4 L5 L6 N) N (Zb1 L0 a1 L2 L3 L4 L5 L6 N)

inductive Z4 where
 | r0 (w1 : List Int) (w2 : Int)

inductive Zp where
 | h1m0 (v1 : List Int) (v2 : Int)

def ZC (L0 : List Int) (a1 : Int) (L2 : List R_si) (N : Nat) (v1 : List Int) (v2 : Int) : Option (Zp ⊕ Z4) :=
 if ¬ ((ZgV v1 ([] : List Int)) = true) then
  if (ZM v1) = true then
   if v1.length ≤ 1000000 then
    if (Zbh (10 : Int) v1) = true then
     if (ZgV (Zal (10 : Int) v1) ([] : List Int)) = true then
      some (.inl (.h1m0 ((Zb0 (10 : Int) v1)) ((IntKind.i64.wrap (v2 + (1 : Int)))) : Zp))
     else
     none
    else
    none
   else
   none
  else
  none
 else
 ((ZbR (v1) (v2) (([] : List RA)) (([] : List Int)) (([] : List R_is)) (([] : List (List Int))) (L2) N).bind fun r => match r with
 | .r0 =>
  some (.inr (.r0 (v1) (v2) : Z4))
 )

def ZG (L0 : List Int) (a1 : Int) (L2 : List R_si) (N : Nat) : Zp → Option (Zp ⊕ Z4)
 | .h1m0 v1 v2 => ZC L0 a1 L2 N v1 v2

def ZbW (L0 : List Int) (a1 : Int) (L2 : List R_si) (N : Nat) : Option (Zp ⊕ Z4) :=
 some (.inl (.h1m0 (L0) (a1) : Zp))

def ZbB (L0 : List Int) (a1 : Int) (L2 : List R_si) (N : Nat) : Option Z4 := goM (ZG L0 a1 L2 N) N (ZbW L0 a1 L2 N)

inductive ZaS where
 | r0
 | r1

def Zaj (L0 : List Int) (N : Nat) : Option ZaS :=
 if (262144 : Int) < (((Za L0).size : Nat) : Int) then
  some (.r0 : ZaS)
 else
 ((ZbB (L0) ((0 : Int)) (([] : List R_si)) N).bind fun r => match r with
 | .r0 y1_0 y1_1 =>
  some (.r1 : ZaS)
 )

inductive Zj where
 | r0 (w0 : Bool)

inductive Zv where
 | h1m0 (v1 : List Int) (v2 : Nat)

def ZJ (L0 : List Int) (a1 : Int) (N : Nat) (v1 : List Int) (v2 : Nat) : Option (Zv ⊕ Zj) :=
 if (v2 : Int) < (v1.length : Int) then
  if (((v2 + 1) : Nat) : Int) ≤ (9223372036854775807 : Int) then
   some (.inl (.h1m0 ((v1.set v2 (10 : Int))) ((v2 + 1)) : Zv))
  else
  none
 else
 ((Zaj (v1) N).bind fun r => match r with
 | .r0 =>
  if (v1.length + (L0.take ((if (4000 : Int) < (((Za L0).size : Nat) : Int) then (4000 : Int) else (((Za L0).size : Nat) : Int))).toNat).length) ≤ 1000000 then
   ((Zaj ((v1 ++ (L0.take ((if (4000 : Int) < (((Za L0).size : Nat) : Int) then (4000 : Int) else (((Za L0).size : Nat) : Int))).toNat))) N).bind fun r => match r with
   | .r0 =>
    some (.inr (.r0 (false) : Zj))
   | .r1 =>
    some (.inr (.r0 (false) : Zj))
   )
  else
  none
 | .r1 =>
  if (v1.length + (L0.take ((if (4000 : Int) < (((Za L0).size : Nat) : Int) then (4000 : Int) else (((Za L0).size : Nat) : Int))).toNat).length) ≤ 1000000 then
   ((Zaj ((v1 ++ (L0.take ((if (4000 : Int) < (((Za L0).size : Nat) : Int) then (4000 : Int) else (((Za L0).size : Nat) : Int))).toNat))) N).bind fun r => match r with
   | .r0 =>
    if (0 : Int) < (((Za (L0.take ((if (4000 : Int) < (((Za L0).size : Nat) : Int) then (4000 : Int) else (((Za L0).size : Nat) : Int))).toNat)).size : Nat) : Int) then
     some (.inr (.r0 (true) : Zj))
    else
    some (.inr (.r0 (false) : Zj))
   | .r1 =>
    if (0 : Int) < (((Za (L0.take ((if (4000 : Int) < (((Za L0).size : Nat) : Int) then (4000 : Int) else (((Za L0).size : Nat) : Int))).toNat)).size : Nat) : Int) then
     some (.inr (.r0 (false) : Zj))
    else
    some (.inr (.r0 (true) : Zj))
   )
  else
  none
 )

def Zah (L0 : List Int) (a1 : Int) (N : Nat) : Zv → Option (Zv ⊕ Zj)
 | .h1m0 v1 v2 => ZJ L0 a1 N v1 v2

def ZbC (L0 : List Int) (a1 : Int) (N : Nat) : Option (Zv ⊕ Zj) :=
 some (.inl (.h1m0 ((List.replicate 262144 (0 : Int))) (0) : Zv))

def Zdi (L0 : List Int) (a1 : Int) (N : Nat) : Option Zj := goM (Zah L0 a1 N) N (ZbC L0 a1 N)
end Ev
end Go.Proofs.YtlbbiflodemagaaDoor
/- How records are written, and which functions are told. -/
namespace Go.Proofs.YtlbbiflodemagaaDoor
open Go.RowKit
namespace Ev
set_option linter.unusedVariables false
def Z5 : Enc RA := ⟨fun x => [.i x.a0, .i x.a1, .i x.a2, .i x.a3], 4, RA.z, fun _ => rfl, fun _ => rfl⟩
def ZaD : Enc R_is := ⟨fun x => [.i x.a0, .s (Za x.a1)], 2, R_is.z, fun _ => rfl, fun _ => rfl⟩
def mapES (L : List R_si) : List MapEntry := L.map fun x => ⟨.string (Za x.a0), .int .i64 x.a1, 0⟩
def Z3 (L : List R_si) : Obj := .map (mapES L).toArray 0
section
variable {P : Program} {kt : TypeId} (hu : P.underlying kt = some .string)
include hu
omit hu in
omit hu in
end
instance : Inhabited RA := ⟨RA.z⟩
instance : Inhabited R_is := ⟨R_is.z⟩
instance : Inhabited R_si := ⟨R_si.z⟩
def Zko : FuncId → Option (List Value → Option Value) := fun f =>
 bif Nat.beq f 8 then some (fun l => match l with | [] => some (.bool true) | _ => none) else
 none
theorem Zmg (w : World) (ht : TabW w) : Calls Tryd.prog 8 #[] w (Ret (.bool true) w) := Zoy w ht
theorem Zoz : ZhG Zko := fun f g h => by
 unfold Zko at h
 cases hb : Nat.beq f 8 with
 | true =>
  rw [hb] at h
  obtain rfl := Nat.eq_of_beq_eq_true hb
  simp only [cond_true, Option.some.injEq] at h
  subst h
  refine ⟨⟨_, _, Tryd.func8, rfl⟩, fun args v ha hv w ht => ?_⟩
  obtain ⟨l⟩ := args
  cases l with
  | nil =>
   change some (Value.bool true) = some v at hv
   injection hv with hv
   subst hv
   exact Zmg w ht
  | cons x l => change (none : Option Value) = some v at hv; cases hv
 | false =>
  rw [hb] at h
  simp only [cond_false] at h
  cases h
def ZmY : FuncId → Bool := fun f => Nat.beq f 52 || Nat.beq f 38 || Nat.beq f 9 || Nat.beq f 6
noncomputable def Zkp : FuncId → Option Ext := Zih (ZlY Zko) ZmY
theorem ZnJ : Fit Tryd.prog Zkp := ZnC (ZnB Zoz) (fun f h => by
 simp only [ZmY, Bool.or_eq_true] at h
 simp only [Nat.beq_eq] at h
 rcases h with ((rfl | rfl) | rfl) | rfl
 ·exact ⟨_, _, Tryd.func52, rfl⟩
 ·exact ⟨_, _, Tryd.func38, rfl⟩
 ·exact ⟨_, _, Tryd.func9, rfl⟩
 ·exact ⟨_, _, Tryd.func6, rfl⟩
 )
noncomputable def Zkq : FuncId → Option Ext := Zih ZgQ (fun f => Nat.beq f 38)
theorem ZnK : Fit Tryd.prog Zkq := ZnC Zig (fun f h => by
 simp only [Nat.beq_eq] at h
 subst h
 exact ⟨_, _, Tryd.func38, rfl⟩)
noncomputable def Zav : FuncId → Option Ext := fun x => bif Nat.beq x 30 then some (.hp (ZeB Tryd.prog Zkq 20000 30)) else Zkp x
theorem Zgo : Fit Tryd.prog Zav := Zox ZnJ (Zh6 ZnK Tryd.func30 rfl)
end Ev
end Go.Proofs.YtlbbiflodemagaaDoor
/- Calls do what the plain functions say. -/
namespace Go.Proofs.YtlbbiflodemagaaDoor
open Go.RowKit
namespace Ev
set_option linter.unusedVariables false
set_option maxRecDepth 100000
noncomputable def Zef (L0 : List Int) (a1 : Int) (L2 : List RA) (L3 : List Int) (L4 : List R_is) (L5 : List (List Int)) (L6 : List R_si) : Z9 → Value
 | .r0 => vtt
noncomputable def ZdP (L0 : List Int) (a1 : Int) (L2 : List RA) (L3 : List Int) (L4 : List R_is) (L5 : List (List Int)) (L6 : List R_si) : Z9 → List (Option AObj)
 | .r0 => [some (.cells [Value.string (Za L0), vi a1, vs 1 0 L2.length L2.length, vs 2 0 L3.length L3.length, vs 3 0 L4.length L4.length, vs 4 0 L5.length L5.length, Value.map (some 5)] 57), some (.cells (Ze Z5 L2) 24 true), some (.cells (Ze eI L3) 3 true), some (.cells (Ze ZaD L4) 122 true), some (.cells (Ze ZaC L5) 9 true), some (.ro (Z3 L6) true)]

def ZgY : asm_reader_aimX → Nat
 | .h1m0 => 1
noncomputable def ZhM (L0 : List Int) (a1 : Int) (L2 : List RA) (L3 : List Int) (L4 : List R_is) (L5 : List (List Int)) (L6 : List R_si) : asm_reader_aimX → List (Nat × Value)
 | .h1m0 => [(0, vp 0 0), (9, vs 1 0 L2.length L2.length), (10, vi (L2.length : Int)), (11, vq)]
noncomputable def ZhN (L0 : List Int) (a1 : Int) (L2 : List RA) (L3 : List Int) (L4 : List R_is) (L5 : List (List Int)) (L6 : List R_si) : asm_reader_aimX → List (Option AObj)
 | .h1m0 => [some (.cells [Value.string (Za L0), vi a1, vs 1 0 L2.length L2.length, vs 2 0 L3.length L3.length, vs 3 0 L4.length L4.length, vs 4 0 L5.length L5.length, Value.map (some 5)] 57), some (.cells (Ze Z5 L2) 24 true), some (.cells (Ze eI L3) 3 true), some (.cells (Ze ZaD L4) 122 true), some (.cells (Ze ZaC L5) 9 true), some (.ro (Z3 L6) true)]

noncomputable def ZbD : Nat → Code × List Zak
 | 1 => Zca [1, 3] (Zec Tryd.f52) []
 | _ => (.skip, [])
def ZgZ : Nat → Bool
 | 1 => true
 | _ => true
noncomputable def Zad (L0 : List Int) (a1 : Int) (L2 : List RA) (L3 : List Int) (L4 : List R_is) (L5 : List (List Int)) (L6 : List R_si) (N : Nat) : Mach := ⟨Tryd.f52, [.cells [Value.string (Za L0), vi a1, vs 1 0 L2.length L2.length, vs 2 0 L3.length L3.length, vs 3 0 L4.length L4.length, vs 4 0 L5.length L5.length, Value.map (some 5)] 57, .cells (Ze Z5 L2) 24 true, .cells (Ze eI L3) 3 true, .cells (Ze ZaD L4) 122 true, .cells (Ze ZaC L5) 9 true, .ro (Z3 L6) true], asm_reader_aimX, Z9, ZaR L0 a1 L2 L3 L4 L5 L6 N, ZgY, ZbD, ZgZ, ZhM L0 a1 L2 L3 L4 L5 L6, ZhN L0 a1 L2 L3 L4 L5 L6, Zef L0 a1 L2 L3 L4 L5 L6, ZdP L0 a1 L2 L3 L4 L5 L6⟩

theorem Zfh (L0 : List Int) (a1 : Int) (L2 : List RA) (L3 : List Int) (L4 : List R_is) (L5 : List (List Int)) (L6 : List R_si) (N : Nat) : (Zad L0 a1 L2 L3 L4 L5 L6 N).Ok Tryd.prog Zav (.h1m0 : asm_reader_aimX) (ZaR L0 a1 L2 L3 L4 L5 L6 N (.h1m0 : asm_reader_aimX)) := by
 show (Zad L0 a1 L2 L3 L4 L5 L6 N).Ok Tryd.prog Zav (.h1m0 : asm_reader_aimX) (Zam L0 a1 L2 L3 L4 L5 L6 N)
 unfold Zam
 refine Mach.ok_ite (fun _ => Mach.ok_none) (fun g0 => ?_)
 exact Mach.ok_fin (M := Zad L0 a1 L2 L3 L4 L5 L6 N) (cd := 1000000) (cm := 0) (r := (.r0 : Z9)) (fu := 4000) (orc := (ZbV [(0, false)] [] [] [] [])) (live := [0, 1, 2, 3, 4, 5]) (u := vtt) (bl := [some (.cells [Value.string (Za L0), vi a1, vs 1 0 L2.length L2.length, vs 2 0 L3.length L3.length, vs 3 0 L4.length L4.length, vs 4 0 L5.length L5.length, Value.map (some 5)] 57), some (.cells (Ze Z5 L2) 24 true), some (.cells (Ze eI L3) 3 true), some (.cells (Ze ZaD L4) 122 true), some (.cells (Ze ZaC L5) 9 true), some (.ro (Z3 L6) true)]) (ob := [((decide ((0 : Int) < (L2.length : Int))), false)]) (fun gv => by kernel_rfl) (oN Zag) rfl (by decide) (by rfl) rr ⟨sm, ⟨(ZB (E := Z5) (α := RA) _ L2 _), ⟨(ZB (E := eI) (α := Int) _ L3 _), ⟨(ZB (E := ZaD) (α := R_is) _ L4 _), ⟨(ZB (E := ZaC) (α := List Int) _ L5 _), ⟨(show Z3 L6 = Z3 L6 from rfl), trivial⟩⟩⟩⟩⟩⟩

theorem Zgr (L0 : List Int) (a1 : Int) (L2 : List RA) (L3 : List Int) (L4 : List R_is) (L5 : List (List Int)) (L6 : List R_si) (N : Nat) : (Zad L0 a1 L2 L3 L4 L5 L6 N).Enter Tryd.prog Zav #[vp 0 0] (Zb1 L0 a1 L2 L3 L4 L5 L6 N) := by
 unfold Zb1
 exact Mach.en_head (bK := ZbD 1) (M := Zad L0 a1 L2 L3 L4 L5 L6 N) (cd := 1000000) (cm := 0) (y := (.h1m0 : asm_reader_aimX)) (fu := 4000) (orc := (ZbV [] [] [] [] [])) (live := [0, 1, 2, 3, 4, 5]) (tv := [some (vp 0 0), some (vs 1 0 L2.length L2.length), some (vi (L2.length : Int)), some (vq)]) (bl := [some (.cells [Value.string (Za L0), vi a1, vs 1 0 L2.length L2.length, vs 2 0 L3.length L3.length, vs 3 0 L4.length L4.length, vs 4 0 L5.length L5.length, Value.map (some 5)] 57), some (.cells (Ze Z5 L2) 24 true), some (.cells (Ze eI L3) 3 true), some (.cells (Ze ZaD L4) 122 true), some (.cells (Ze ZaC L5) 9 true), some (.ro (Z3 L6) true)]) (ob := []) rfl rfl (show ZV (ZbD 1).2 = [] from rfl) (by kernel_rfl) Zag rfl (by decide) (by rfl) ⟨rr, ⟨rr, ⟨rr, ⟨rr, trivial⟩⟩⟩⟩ ⟨sm, ⟨(ZB (E := Z5) (α := RA) _ L2 _), ⟨(ZB (E := eI) (α := Int) _ L3 _), ⟨(ZB (E := ZaD) (α := R_is) _ L4 _), ⟨(ZB (E := ZaC) (α := List Int) _ L5 _), ⟨(show Z3 L6 = Z3 L6 from rfl), trivial⟩⟩⟩⟩⟩⟩

theorem Zfo (L0 : List Int) (a1 : Int) (L2 : List RA) (L3 : List Int) (L4 : List R_is) (L5 : List (List Int)) (L6 : List R_si) (N : Nat) (r : Z9) (h : ZbR L0 a1 L2 L3 L4 L5 L6 N = some r) : LSpec Tryd.prog 52 #[vp 0 0] [.cells [Value.string (Za L0), vi a1, vs 1 0 L2.length L2.length, vs 2 0 L3.length L3.length, vs 3 0 L4.length L4.length, vs 4 0 L5.length L5.length, Value.map (some 5)] 57, .cells (Ze Z5 L2) 24 true, .cells (Ze eI L3) 3 true, .cells (Ze ZaD L4) 122 true, .cells (Ze ZaC L5) 9 true, .ro (Z3 L6) true] (Zef L0 a1 L2 L3 L4 L5 L6 r) (ZdP L0 a1 L2 L3 L4 L5 L6 r) :=
 Mach.spec Zgo (Zad L0 a1 L2 L3 L4 L5 L6 N) Tryd.func52 (by kernel_rfl) (by kernel_rfl) (fun x => by cases x <;> exact Zdb _ rfl) (fun r => by cases r <;> exact Zdb _ rfl) (fun x => by
  cases x with
  | h1m0 => exact fun _ => (show ¬ (1 ∈ ZV (ZbD 1).2) from by decide +kernel)
  ) (fun x => (show (Zad L0 a1 L2 L3 L4 L5 L6 N).Ok Tryd.prog Zav x (ZaR L0 a1 L2 L3 L4 L5 L6 N x) from by
  cases x with
  | h1m0 => exact Zfh L0 a1 L2 L3 L4 L5 L6 N
  )) (Zgr L0 a1 L2 L3 L4 L5 L6 N) (n := N) h

noncomputable def Zha (L0 : List Int) (a1 : Int) (L2 : List RA) (L3 : List Int) (L4 : List R_is) (L5 : List (List Int)) (L6 : List R_si) (k0 k1 k2 k3 k4 k5 n : Nat) : Zce := .call [(k0, .cells [Value.string (Za L0), vi a1, vs k1 0 L2.length L2.length, vs k2 0 L3.length L3.length, vs k3 0 L4.length L4.length, vs k4 0 L5.length L5.length, Value.map (some k5)] 57), (k1, .cells (Ze Z5 L2) 24 true), (k2, .cells (Ze eI L3) 3 true), (k3, .cells (Ze ZaD L4) 122 true), (k4, .cells (Ze ZaC L5) 9 true), (k5, .ro (Z3 L6) true)] (vtt) [] 0
def ZdQ (A : Array Value) (L0 : List Int) (a1 : Int) (L2 : List RA) (L3 : List Int) (L4 : List R_is) (L5 : List (List Int)) (L6 : List R_si) (k0 k1 k2 k3 k4 k5 n : Nat) : Prop := ZT Tryd.prog 52 A [(k0, .cells [Value.string (Za L0), vi a1, vs k1 0 L2.length L2.length, vs k2 0 L3.length L3.length, vs k3 0 L4.length L4.length, vs k4 0 L5.length L5.length, Value.map (some k5)] 57), (k1, .cells (Ze Z5 L2) 24 true), (k2, .cells (Ze eI L3) 3 true), (k3, .cells (Ze ZaD L4) 122 true), (k4, .cells (Ze ZaC L5) 9 true), (k5, .ro (Z3 L6) true)] (vtt) [] n 0

theorem Zhb (A : Array Value) (L0 : List Int) (a1 : Int) (L2 : List RA) (L3 : List Int) (L4 : List R_is) (L5 : List (List Int)) (L6 : List R_si) (N : Nat) (h : ZbR L0 a1 L2 L3 L4 L5 L6 N = some (.r0)) (k0 k1 k2 k3 k4 k5 n : Nat) (hA : A = #[vp k0 0]) (hnd : ([k0, k1, k2, k3, k4, k5] : List Nat).Nodup) (hlt : ∀ k ∈ ([k0, k1, k2, k3, k4, k5] : List Nat), k < n) : ZdQ A L0 a1 L2 L3 L4 L5 L6 k0 k1 k2 k3 k4 k5 n :=
 Zgn hA (LSpec.callL (show LSpec Tryd.prog 52 #[vp 0 0] [.cells [Value.string (Za L0), vi a1, vs 1 0 L2.length L2.length, vs 2 0 L3.length L3.length, vs 3 0 L4.length L4.length, vs 4 0 L5.length L5.length, Value.map (some 5)] 57, .cells (Ze Z5 L2) 24 true, .cells (Ze eI L3) 3 true, .cells (Ze ZaD L4) 122 true, .cells (Ze ZaC L5) 9 true, .ro (Z3 L6) true] (vtt) [some (.cells [Value.string (Za L0), vi a1, vs 1 0 L2.length L2.length, vs 2 0 L3.length L3.length, vs 3 0 L4.length L4.length, vs 4 0 L5.length L5.length, Value.map (some 5)] 57), some (.cells (Ze Z5 L2) 24 true), some (.cells (Ze eI L3) 3 true), some (.cells (Ze ZaD L4) 122 true), some (.cells (Ze ZaC L5) 9 true), some (.ro (Z3 L6) true)] from Zfo L0 a1 L2 L3 L4 L5 L6 N _ h) [k0, k1, k2, k3, k4, k5] n [] rfl hnd hlt (show 6 ≤ 6 from by decide) (show ∀ j ∈ ([] : List Nat), j < 6 from by decide) (by rfl) ⟨rfl, ⟨(ZZ _ _ _), ⟨(ZZ _ _ _), ⟨(ZZ _ _ _), ⟨(ZZ _ _ _), ⟨rfl, trivial⟩⟩⟩⟩⟩⟩ (by rfl) ⟨rfl, ⟨(ZZ _ _ _), ⟨(ZZ _ _ _), ⟨(ZZ _ _ _), ⟨(ZZ _ _ _), ⟨rfl, trivial⟩⟩⟩⟩⟩⟩ ⟨.inr rfl, ⟨.inr rfl, ⟨.inr rfl, ⟨.inr rfl, ⟨.inr rfl, ⟨.inr rfl, trivial⟩⟩⟩⟩⟩⟩ rfl rfl rfl (Zq (Zau rfl rfl) (Zq (Zau rfl (ZaQ _ _ _)) (Zq (Zau rfl (ZaQ _ _ _)) (Zq (Zau rfl (ZaQ _ _ _)) (Zq (Zau rfl (ZaQ _ _ _)) (Zq (Zau rfl rfl) rfl)))))) rfl)

noncomputable def ZdR (L0 : List Int) (a1 : Int) (L2 : List R_si) : Z4 → Value
 | .r0 w1 w2 => vtt
noncomputable def Zdj (L0 : List Int) (a1 : Int) (L2 : List R_si) : Z4 → List (Option AObj)
 | .r0 w1 w2 => [some (.cells [Value.string (Za w1), vi w2, vs 2 0 0 0, vs 3 0 0 0, vs 4 0 0 0, vs 5 0 0 0, Value.map (some 1)] 57), some (.ro (Z3 L2) true), some (.cells (Ze Z5 ([] : List RA)) 24 true), some (.cells (Ze eI ([] : List Int)) 3 true), some (.cells (Ze ZaD ([] : List R_is)) 122 true), some (.cells (Ze ZaC ([] : List (List Int))) 9 true)]

def Zgs : Zp → Nat
 | .h1m0 v1 v2 => 1
noncomputable def Zhc (L0 : List Int) (a1 : Int) (L2 : List R_si) : Zp → List (Nat × Value)
 | .h1m0 v1 v2 => [(0, vp 0 0)]
noncomputable def Zhd (L0 : List Int) (a1 : Int) (L2 : List R_si) : Zp → List (Option AObj)
 | .h1m0 v1 v2 => [some (.cells [Value.string (Za v1), vi v2, vs 2 0 0 0, vs 3 0 0 0, vs 4 0 0 0, vs 5 0 0 0, Value.map (some 1)] 57), some (.ro (Z3 L2) true), some (.cells (Ze Z5 ([] : List RA)) 24 true), some (.cells (Ze eI ([] : List Int)) 3 true), some (.cells (Ze ZaD ([] : List R_is)) 122 true), some (.cells (Ze ZaC ([] : List (List Int))) 9 true)]

noncomputable def Zap : Nat → Code × List Zak
 | 1 => Zca [0, 3] (Zec Tryd.f38) []
 | _ => (.skip, [])
def Zdk : Nat → Bool
 | 1 => true
 | _ => true
noncomputable def Zhe (i : Nat) : List Zak := match Zdk i with | true => .rnd i :: (Zap i).2 | false => (Zap i).2

noncomputable def ZK (L0 : List Int) (a1 : Int) (L2 : List R_si) (N : Nat) : Mach := ⟨Tryd.f38, [.cells [Value.string (Za L0), vi a1, vn, vn, vn, vn, Value.map (some 1)] 57, .ro (Z3 L2) true], Zp, Z4, ZG L0 a1 L2 N, Zgs, Zap, Zdk, Zhc L0 a1 L2, Zhd L0 a1 L2, ZdR L0 a1 L2, Zdj L0 a1 L2⟩

theorem ZeJ (L0 : List Int) (a1 : Int) (L2 : List R_si) (v1 : List Int) (v2 : Int) (N : Nat) : (ZK L0 a1 L2 N).Ok Tryd.prog Zav (.h1m0 v1 v2 : Zp) (ZG L0 a1 L2 N (.h1m0 v1 v2 : Zp)) := by
 show (ZK L0 a1 L2 N).Ok Tryd.prog Zav (.h1m0 v1 v2 : Zp) (ZC L0 a1 L2 N v1 v2)
 unfold ZC
 refine Mach.ok_ite (fun g0 => ?_) (fun g0 => ?_)
 ·
  refine Mach.ok_ite (fun g1 => ?_) (fun _ => Mach.ok_none)
  refine Mach.ok_ite (fun g2 => ?_) (fun _ => Mach.ok_none)
  refine Mach.ok_ite (fun g3 => ?_) (fun _ => Mach.ok_none)
  refine Mach.ok_ite (fun g4 => ?_) (fun _ => Mach.ok_none)
  exact Mach.ok_next (M := ZK L0 a1 L2 N) (cd := 1000000) (cm := 0) (y := (.h1m0 ((Zb0 (10 : Int) v1)) ((IntKind.i64.wrap (v2 + (1 : Int)))) : Zp)) (fu := 4000) (orc := (ZbV [(0, true), (1, true), (3, true)] [] [] [] [(1, .bs v1)])) (live := [0, 1, 2, 3, 4, 5]) (tv := fun _ => [some (vp 0 0)]) (bl := [some (.cells [Value.string (Za (Zb0 (10 : Int) v1)), vi (IntKind.i64.wrap (v2 + (1 : Int))), vs 2 0 0 0, vs 3 0 0 0, vs 4 0 0 0, vs 5 0 0 0, Value.map (some 1)] 57), some (.ro (Z3 L2) true), some (.cells (Ze Z5 ([] : List RA)) 24 true), some (.cells (Ze eI ([] : List Int)) 3 true), some (.cells (Ze ZaD ([] : List R_is)) 122 true), some (.cells (Ze ZaC ([] : List (List Int))) 9 true)]) (ob := [(((Za (Zal (10 : Int) v1)).toList == (⟨#[]⟩ : ByteArray).toList), true), ((Zbh (10 : Int) v1), true), (dP ((Za v1) = Za v1 ∧ ZM v1 = true ∧ v1.length ≤ 1000000), true), ((!((Za v1).toList == (⟨#[]⟩ : ByteArray).toList)), true)]) rfl (show 1 ∈ ZV (Zhe 1) from by decide +kernel) (fun gv => by kernel_rfl) (Zf (ZmW (x := (Zal (10 : Int) v1)) (y := ([] : List Int)) (by assumption)) <| Zf (by assumption) <| Zf (Zs ⟨rfl, by assumption, ltA⟩) <| Zf (ZoH (x := v1) (y := ([] : List Int)) (by assumption)) Zag) rfl (by decide) (by rfl) (fun _ => ⟨rr, trivial⟩) ⟨sm, ⟨(show Z3 L2 = Z3 L2 from rfl), ⟨(ZB (E := Z5) (α := RA) _ ([] : List RA) _), ⟨(ZB (E := eI) (α := Int) _ ([] : List Int) _), ⟨(ZB (E := ZaD) (α := R_is) _ ([] : List R_is) _), ⟨(ZB (E := ZaC) (α := List Int) _ ([] : List (List Int)) _), trivial⟩⟩⟩⟩⟩⟩
 ·
  refine Mach.ok_bind (fun z1 c1 => ?_)
  cases z1 with
  | r0 =>
   exact Mach.ok_fin (M := ZK L0 a1 L2 N) (cd := 1000000) (cm := 0) (r := (.r0 (v1) (v2) : Z4)) (fu := 4000) (orc := (ZbV [(0, false)] [] [] [] [(0, (Zha (v1) (v2) (([] : List RA)) (([] : List Int)) (([] : List R_is)) (([] : List (List Int))) (L2)   0 2 3 4 5 1 6))])) (live := [0, 1, 2, 3, 4, 5]) (u := vtt) (bl := [some (.cells [Value.string (Za v1), vi v2, vs 2 0 0 0, vs 3 0 0 0, vs 4 0 0 0, vs 5 0 0 0, Value.map (some 1)] 57), some (.ro (Z3 L2) true), some (.cells (Ze Z5 ([] : List RA)) 24 true), some (.cells (Ze eI ([] : List Int)) 3 true), some (.cells (Ze ZaD ([] : List R_is)) 122 true), some (.cells (Ze ZaC ([] : List (List Int))) 9 true)]) (ob := [(dP (ZdQ #[vp 0 0] (v1) (v2) (([] : List RA)) (([] : List Int)) (([] : List R_is)) (([] : List (List Int))) (L2)   0 2 3 4 5 1 6), true), (dP ([Value.string (Za v1), vi v2, vs 2 0 0 0, vs 3 0 0 0, vs 4 0 0 0, vs 5 0 0 0, Value.map (some 1)] = [Value.string (Za v1), vi v2, vs 2 0 ([] : List RA).length ([] : List RA).length, vs 3 0 ([] : List Int).length ([] : List Int).length, vs 4 0 ([] : List R_is).length ([] : List R_is).length, vs 5 0 ([] : List (List Int)).length ([] : List (List Int)).length, Value.map (some 1)]), true), (dS (Ze Z5 ([] : List RA)), true), (dS (Ze eI ([] : List Int)), true), (dS (Ze ZaD ([] : List R_is)), true), (dS (Ze ZaC ([] : List (List Int))), true), (dS (Z3 L2), true), ((!((Za v1).toList == (⟨#[]⟩ : ByteArray).toList)), false)]) (fun gv => by kernel_rfl) (Zf (Zs (Zhb #[vp 0 0] (v1) (v2) (([] : List RA)) (([] : List Int)) (([] : List R_is)) (([] : List (List Int))) (L2)   N c1 0 2 3 4 5 1 6 rfl (by decide) (by decide))) <| Zf (Zs (Zq rfl (Zq rfl (Zq (ZcL rfl eqA eqA) (Zq (ZcL rfl eqA eqA) (Zq (ZcL rfl eqA eqA) (Zq (ZcL rfl eqA eqA) (Zq rfl rfl)))))))) <| oR <| oR <| oR <| oR <| Zf (Zs (congrArg Z3 (by first | rfl | simp))) <| Zf (ZoI (x := v1) (y := ([] : List Int)) (by first | assumption | exact Decidable.not_not.1 (by assumption))) Zag) rfl (by decide) (by rfl) rr ⟨sm, ⟨(show Z3 L2 = Z3 L2 from rfl), ⟨(ZB (E := Z5) (α := RA) _ ([] : List RA) _), ⟨(ZB (E := eI) (α := Int) _ ([] : List Int) _), ⟨(ZB (E := ZaD) (α := R_is) _ ([] : List R_is) _), ⟨(ZB (E := ZaC) (α := List Int) _ ([] : List (List Int)) _), trivial⟩⟩⟩⟩⟩⟩

theorem ZfR (L0 : List Int) (a1 : Int) (L2 : List R_si) (N : Nat) : (ZK L0 a1 L2 N).Enter Tryd.prog Zav #[vp 0 0] (ZbW L0 a1 L2 N) := by
 unfold ZbW
 exact Mach.en_headW (bK := Zap 1) (M := ZK L0 a1 L2 N) (cd := 1000000) (cm := 0) (y := (.h1m0 (L0) (a1) : Zp)) (fu := 4000) (orc := (ZbV [] [] [] [] [])) (live := [0, 1, 500000002, 500000003, 500000004, 500000005]) (tv := [some (vp 0 0)]) (bl := [some (.cells [Value.string (Za L0), vi a1, vn, vn, vn, vn, Value.map (some 1)] 57), some (.ro (Z3 L2) true), none, none, none, none]) (ob := []) [some (.cells [Value.string (Za L0), vi a1, vn, vn, vn, vn, Value.map (some 1)] 57), some (.ro (Z3 L2) true), none, none, none, none] [(2, 24), (3, 3), (4, 122), (5, 9)] 0 ⟨(wk_c ⟨.inl rfl, ⟨.inl rfl, ⟨.inr ⟨rfl, _, rfl⟩, ⟨.inr ⟨rfl, _, rfl⟩, ⟨.inr ⟨rfl, _, rfl⟩, ⟨.inr ⟨rfl, _, rfl⟩, ⟨.inl rfl, trivial⟩⟩⟩⟩⟩⟩⟩), ⟨(.inl rfl), ⟨(.inl rfl), ⟨(.inl rfl), ⟨(.inl rfl), ⟨(.inl rfl), trivial⟩⟩⟩⟩⟩⟩ (by rfl) (by rfl) rfl rfl (show ZV (Zap 1).2 = [] from rfl) (by kernel_rfl) Zag rfl (by decide) (by rfl) ⟨rr, trivial⟩ ⟨sm, ⟨(show Z3 L2 = Z3 L2 from rfl), trivial⟩⟩

theorem Zfi (L0 : List Int) (a1 : Int) (L2 : List R_si) (N : Nat) (r : Z4) (h : ZbB L0 a1 L2 N = some r) : LSpec Tryd.prog 38 #[vp 0 0] [.cells [Value.string (Za L0), vi a1, vn, vn, vn, vn, Value.map (some 1)] 57, .ro (Z3 L2) true] (ZdR L0 a1 L2 r) (Zdj L0 a1 L2 r) :=
 Mach.spec Zgo (ZK L0 a1 L2 N) Tryd.func38 (by kernel_rfl) (by kernel_rfl) (fun x => by cases x <;> exact Zdb _ rfl) (fun r => by cases r <;> exact Zdb _ rfl) (fun x => by
  cases x with
  | h1m0 _ _ => exact fun _ => (show ¬ (1 ∈ ZV (Zap 1).2) from by decide +kernel)
  ) (fun x => (show (ZK L0 a1 L2 N).Ok Tryd.prog Zav x (ZG L0 a1 L2 N x) from by
  cases x with
  | h1m0 v1 v2 => exact ZeJ L0 a1 L2 v1 v2 N
  )) (ZfR L0 a1 L2 N) (n := N) h

noncomputable def Zgt (L0 : List Int) (a1 : Int) (L2 : List R_si) (w1 : List Int) (w2 : Int) (k0 k1 n : Nat) : Zce := .call [(k0, .cells [Value.string (Za L0), vi a1, vn, vn, vn, vn, Value.map (some k1)] 57), (k1, .ro (Z3 L2) true)] (vtt) [(k0, some (.cells [Value.string (Za w1), vi w2, vs n 0 0 0, vs (n + 1) 0 0 0, vs (n + 2) 0 0 0, vs (n + 3) 0 0 0, Value.map (some k1)] 57)), (n, some (.cells (Ze Z5 ([] : List RA)) 24 true)), ((n + 1), some (.cells (Ze eI ([] : List Int)) 3 true)), ((n + 2), some (.cells (Ze ZaD ([] : List R_is)) 122 true)), ((n + 3), some (.cells (Ze ZaC ([] : List (List Int))) 9 true))] 4
def Zdl (A : Array Value) (L0 : List Int) (a1 : Int) (L2 : List R_si) (w1 : List Int) (w2 : Int) (k0 k1 n : Nat) : Prop := ZT Tryd.prog 38 A [(k0, .cells [Value.string (Za L0), vi a1, vn, vn, vn, vn, Value.map (some k1)] 57), (k1, .ro (Z3 L2) true)] (vtt) [(k0, some (.cells [Value.string (Za w1), vi w2, vs n 0 0 0, vs (n + 1) 0 0 0, vs (n + 2) 0 0 0, vs (n + 3) 0 0 0, Value.map (some k1)] 57)), (n, some (.cells (Ze Z5 ([] : List RA)) 24 true)), ((n + 1), some (.cells (Ze eI ([] : List Int)) 3 true)), ((n + 2), some (.cells (Ze ZaD ([] : List R_is)) 122 true)), ((n + 3), some (.cells (Ze ZaC ([] : List (List Int))) 9 true))] n 4

theorem Zgu (A : Array Value) (L0 : List Int) (a1 : Int) (L2 : List R_si) (w1 : List Int) (w2 : Int) (N : Nat) (h : ZbB L0 a1 L2 N = some (.r0 w1 w2)) (k0 k1 n : Nat) (hA : A = #[vp k0 0]) (hnd : ([k0, k1] : List Nat).Nodup) (hlt : ∀ k ∈ ([k0, k1] : List Nat), k < n) : Zdl A L0 a1 L2 w1 w2 k0 k1 n :=
 Zgn hA (LSpec.callL (show LSpec Tryd.prog 38 #[vp 0 0] [.cells [Value.string (Za L0), vi a1, vn, vn, vn, vn, Value.map (some 1)] 57, .ro (Z3 L2) true] (vtt) [some (.cells [Value.string (Za w1), vi w2, vs 2 0 0 0, vs 3 0 0 0, vs 4 0 0 0, vs 5 0 0 0, Value.map (some 1)] 57), some (.ro (Z3 L2) true), some (.cells (Ze Z5 ([] : List RA)) 24 true), some (.cells (Ze eI ([] : List Int)) 3 true), some (.cells (Ze ZaD ([] : List R_is)) 122 true), some (.cells (Ze ZaC ([] : List (List Int))) 9 true)] from Zfi L0 a1 L2 N _ h) [k0, k1] n [0, 2, 3, 4, 5] rfl hnd hlt (show 2 ≤ 6 from by decide) (show ∀ j ∈ ([0, 2, 3, 4, 5] : List Nat), j < 6 from by decide) (by rfl) ⟨rfl, ⟨rfl, trivial⟩⟩ (by rfl) ⟨rfl, ⟨rfl, ⟨(ZZ _ _ _), ⟨(ZZ _ _ _), ⟨(ZZ _ _ _), ⟨(ZZ _ _ _), trivial⟩⟩⟩⟩⟩⟩ ⟨.inl (by decide), ⟨.inr rfl, ⟨(by decide), ⟨(by decide), ⟨(by decide), ⟨(by decide), trivial⟩⟩⟩⟩⟩⟩ rfl rfl rfl (Zq (Zau rfl rfl) (Zq (Zau rfl rfl) rfl)) (Zq (Zau rfl (Zd3 rfl)) (Zq (Zau rfl (Zd3 (ZaQ _ _ _))) (Zq (Zau rfl (Zd3 (ZaQ _ _ _))) (Zq (Zau rfl (Zd3 (ZaQ _ _ _))) (Zq (Zau rfl (Zd3 (ZaQ _ _ _))) rfl))))))

noncomputable def ZhO (L0 : List Int) : ZaS → Value
 | .r0 => Value.tuple #[vn, vq, vi (2 : Int)]
 | .r1 => Value.tuple #[vs 0 0 0 0, vq, vq]
noncomputable def ZgA (L0 : List Int) : ZaS → List (Option AObj)
 | .r0 => []
 | .r1 => [some (.cells (Ze Z5 ([] : List RA)) 24 true)]

theorem Zkr (L0 : List Int) (N : Nat) : Fx Tryd.prog Zav Tryd.f9 [] #[Value.string (Za L0)] (ZhO L0) (ZgA L0) (Zaj L0 N) := by
 unfold Zaj
 refine ZoF (fun g0 => ?_) (fun g0 => ?_)
 ·
  exact Zkg (r := (.r0 : ZaS)) (fu := 4000) (orc := (ZbV [(0, true)] [] [] [] [])) (live := []) (u := Value.tuple #[vn, vq, vi (2 : Int)]) (bl := []) (ob := [((decide ((((Za L0).size : Nat) : Int) > (262144 : Int))), true)]) (by kernel_rfl) (oY Zag) rfl (by decide) (by rfl) rr trivial
 ·
  refine Zow (fun z1 c1 => ?_)
  cases z1 with
  | r0 y1_0 y1_1 =>
   exact Zkg (r := (.r1 : ZaS)) (fu := 4000) (orc := (ZbV [(0, false)] [] [] [] [(1, (Zgt (L0) ((0 : Int)) (([] : List R_si))  y1_0 y1_1 3 2 4))])) (live := [4]) (u := Value.tuple #[vs 4 0 0 0, vq, vq]) (bl := [some (.cells (Ze Z5 ([] : List RA)) 24 true)]) (ob := [(dP (Zdl #[vp 3 0] (L0) ((0 : Int)) (([] : List R_si))  y1_0 y1_1 3 2 4), true), (dS [Value.string (Za L0), vq, vn, vn, vn, vn, Value.map (some 2)], true), (dS (Z3 ([] : List R_si)), true), ((decide ((((Za L0).size : Nat) : Int) > (262144 : Int))), false)]) (by kernel_rfl) (Zf (Zs (Zgu #[vp 3 0] (L0) ((0 : Int)) (([] : List R_si))  y1_0 y1_1 N c1 3 2 4 rfl (by decide) (by decide))) <| Zf (Zs (Zq rfl (Zq rfl (Zq rfl (Zq rfl (Zq rfl (Zq rfl (Zq rfl rfl)))))))) <| Zf (Zs (congrArg Z3 (by first | rfl | simp))) <| oN Zag) rfl (by decide) (by rfl) rr ⟨(ZB (E := Z5) (α := RA) _ ([] : List RA) _), trivial⟩

theorem ZeK (L0 : List Int) (N : Nat) (r : ZaS) (h : Zaj L0 N = some r) : LSpec Tryd.prog 9 #[Value.string (Za L0)] [] (ZhO L0 r) (ZgA L0 r) :=
 Zln Zgo Tryd.func9 (by kernel_rfl) (by kernel_rfl) (fun r => by cases r <;> exact Zdb _ rfl) (Zkr L0 N) h

noncomputable def Zcc (L0 : List Int) (n : Nat) : Zce := .call [] (Value.tuple #[vn, vq, vi (2 : Int)]) [] 0
def Zb6 (A : Array Value) (L0 : List Int) (n : Nat) : Prop := ZT Tryd.prog 9 A [] (Value.tuple #[vn, vq, vi (2 : Int)]) [] n 0

theorem Zcd (A : Array Value) (L0 : List Int) (N : Nat) (h : Zaj L0 N = some (.r0)) (n : Nat) (hA : A = #[Value.string (Za L0)]) (hnd : ([] : List Nat).Nodup) (hlt : ∀ k ∈ ([] : List Nat), k < n) : Zb6 A L0  n :=
 Zgn hA (LSpec.callL (show LSpec Tryd.prog 9 #[Value.string (Za L0)] [] (Value.tuple #[vn, vq, vi (2 : Int)]) [] from ZeK L0 N _ h) [] n [] rfl hnd hlt (show 0 ≤ 0 from by decide) (show ∀ j ∈ ([] : List Nat), j < 0 from by decide) (by rfl) trivial (by rfl) trivial trivial rfl rfl rfl rfl rfl)

noncomputable def ZaU (L0 : List Int) (n : Nat) : Zce := .call [] (Value.tuple #[vs n 0 0 0, vq, vq]) [(n, some (.cells (Ze Z5 ([] : List RA)) 24 true))] 1
def Za2 (A : Array Value) (L0 : List Int) (n : Nat) : Prop := ZT Tryd.prog 9 A [] (Value.tuple #[vs n 0 0 0, vq, vq]) [(n, some (.cells (Ze Z5 ([] : List RA)) 24 true))] n 1

theorem ZaV (A : Array Value) (L0 : List Int) (N : Nat) (h : Zaj L0 N = some (.r1)) (n : Nat) (hA : A = #[Value.string (Za L0)]) (hnd : ([] : List Nat).Nodup) (hlt : ∀ k ∈ ([] : List Nat), k < n) : Za2 A L0  n :=
 Zgn hA (LSpec.callL (show LSpec Tryd.prog 9 #[Value.string (Za L0)] [] (Value.tuple #[vs 0 0 0 0, vq, vq]) [some (.cells (Ze Z5 ([] : List RA)) 24 true)] from ZeK L0 N _ h) [] n [0] rfl hnd hlt (show 0 ≤ 1 from by decide) (show ∀ j ∈ ([0] : List Nat), j < 1 from by decide) (by rfl) trivial (by rfl) ⟨(ZZ _ _ _), trivial⟩ ⟨(by decide), trivial⟩ rfl rfl rfl rfl (Zq (Zau rfl (Zd3 (ZaQ _ _ _))) rfl))

noncomputable def ZeL (L0 : List Int) (a1 : Int) : Zj → Value
 | .r0 w0 => Value.bool w0
noncomputable def Zeg (L0 : List Int) (a1 : Int) : Zj → List (Option AObj)
 | .r0 w0 => []

def ZhP : Zv → Nat
 | .h1m0 v1 v2 => 1
noncomputable def Zim (L0 : List Int) (a1 : Int) : Zv → List (Nat × Value)
 | .h1m0 v1 v2 => [(0, Value.string (Za (L0.take ((if (4000 : Int) < (((Za L0).size : Nat) : Int) then (4000 : Int) else (((Za L0).size : Nat) : Int))).toNat))), (5, vs 0 0 v1.length v1.length), (6, vi (v2 : Int))]
noncomputable def Zin (L0 : List Int) (a1 : Int) : Zv → List (Option AObj)
 | .h1m0 v1 v2 => [some (.cells (Ze (Za9 .u8) v1) 5)]

noncomputable def Za3 : Nat → Code × List Zak
 | 1 => Zca [1, 1, 1, 0, 1, 3] (Zec Tryd.f6) []
 | _ => (.skip, [])
def Zeh : Nat → Bool
 | 1 => true
 | _ => true
noncomputable def Zio (i : Nat) : List Zak := match Zeh i with | true => .rnd i :: (Za3 i).2 | false => (Za3 i).2

noncomputable def Zz (L0 : List Int) (a1 : Int) (N : Nat) : Mach := ⟨Tryd.f6, [], Zv, Zj, Zah L0 a1 N, ZhP, Za3, Zeh, Zim L0 a1, Zin L0 a1, ZeL L0 a1, Zeg L0 a1⟩

theorem Zfp (L0 : List Int) (a1 : Int) (v1 : List Int) (v2 N : Nat) : (Zz L0 a1 N).Ok Tryd.prog Zav (.h1m0 v1 v2 : Zv) (Zah L0 a1 N (.h1m0 v1 v2 : Zv)) := by
 show (Zz L0 a1 N).Ok Tryd.prog Zav (.h1m0 v1 v2 : Zv) (ZJ L0 a1 N v1 v2)
 unfold ZJ
 refine Mach.ok_ite (fun g0 => ?_) (fun g0 => ?_)
 ·
  refine Mach.ok_ite (fun g1 => ?_) (fun _ => Mach.ok_none)
  exact Mach.ok_next (M := Zz L0 a1 N) (cd := 1000000) (cm := 0) (y := (.h1m0 ((v1.set v2 (10 : Int))) ((v2 + 1)) : Zv)) (fu := 4000) (orc := (ZbV [(0, true)] [(0, (((v2 + 1) : Nat) : Int))] [(0, v2)] [] [(0, .st (Ze (Za9 .u8) (v1.set v2 (10 : Int))))])) (live := [0]) (tv := fun _ => [some (Value.string (Za (L0.take ((if (4000 : Int) < (((Za L0).size : Nat) : Int) then (4000 : Int) else (((Za L0).size : Nat) : Int))).toNat))), some (vs 0 0 v1.length v1.length), some (vi (((v2 + 1) : Nat) : Int))]) (bl := [some (.cells (Ze (Za9 .u8) (v1.set v2 (10 : Int))) 5)]) (ob := [((IntKind.i64.wrap ((v2 : Int) + (1 : Int))) == (((v2 + 1) : Nat) : Int), true), (dP ((0 + (v2 * 1)) + ([Value.int .u8 (10 : Int)] : List Value).length ≤ ((Ze (Za9 .u8) v1) : List Value).length ∧ Zcf (Ze (Za9 .u8) v1) (0 + (v2 * 1)) [Value.int .u8 (10 : Int)] = (Ze (Za9 .u8) (v1.set v2 (10 : Int)))), true), (Nat.blt v2 v1.length, true), ((v2 : Int) == Int.ofNat v2, true), ((decide ((v2 : Int) < (v1.length : Int))), true)]) rfl (show 1 ∈ ZV (Zio 1) from by decide +kernel) (fun gv => by kernel_rfl) (Zf (beq_iff_eq.2 ((wrap_i64 ltA).trans (by first | rfl | omega))) <| Zf (Zs (ZnF (E := (Za9 .u8)) (L := v1) (i := v2) (q := 0) (l := [Value.int .u8 (10 : Int)]) (10 : Int) (by omega) (show (0 + (v2 * 1)) = v2 * 1 + 0 from by omega) (show 0 + 1 ≤ 1 from by decide) rfl)) <| oB <| oI <| oY Zag) rfl (by decide) (by rfl) (fun _ => ⟨rr, ⟨⟨Eq.trans (show (vs 0 0 (v1.set v2 (10 : Int)).length (v1.set v2 (10 : Int)).length : Value) = vs 0 0 v1.length v1.length from (ZcL rfl eqA eqA)) (by rfl), by rfl⟩, ⟨rr, trivial⟩⟩⟩) ⟨(Zkk (E := (Za9 .u8)) (α := Int) _ (v1.set v2 (10 : Int)) _), trivial⟩
 ·
  refine Mach.ok_bind (fun z1 c1 => ?_)
  cases z1 with
  | r0 =>
   refine Mach.ok_ite (fun g2 => ?_) (fun _ => Mach.ok_none)
   refine Mach.ok_bind (fun z3 c3 => ?_)
   cases z3 with
   | r0 =>
    exact Mach.ok_fin (M := Zz L0 a1 N) (cd := 1000000) (cm := 0) (r := (.r0 (false) : Zj)) (fu := 4000) (orc := (ZbV [(0, false)] [] [] [] [(0, .bs v1), (1, (Zcc (v1)    1)), (2, (Zcc ((v1 ++ (L0.take ((if (4000 : Int) < (((Za L0).size : Nat) : Int) then (4000 : Int) else (((Za L0).size : Nat) : Int))).toNat)))    1))])) (live := []) (u := vf) (bl := []) (ob := [(dP (Zb6 #[Value.string ((Za v1) ++ (Za (L0.take ((if (4000 : Int) < (((Za L0).size : Nat) : Int) then (4000 : Int) else (((Za L0).size : Nat) : Int))).toNat)))] ((v1 ++ (L0.take ((if (4000 : Int) < (((Za L0).size : Nat) : Int) then (4000 : Int) else (((Za L0).size : Nat) : Int))).toNat)))    1), true), (dP (((((Za v1)).size + ((Za (L0.take ((if (4000 : Int) < (((Za L0).size : Nat) : Int) then (4000 : Int) else (((Za L0).size : Nat) : Int))).toNat))).size : Nat) : Int) ≤ IntKind.i64.max), true), (dP (Zb6 #[Value.string (Za v1)] (v1)    1), true), (dP (Zt v1.length (List.drop 0 (Ze (Za9 .u8) v1)) = some (List.map (Value.int .u8) v1)), true), ((decide ((v2 : Int) < (v1.length : Int))), false)]) (fun gv => by kernel_rfl) (Zf (Zs (Zcd #[Value.string ((Za v1) ++ (Za (L0.take ((if (4000 : Int) < (((Za L0).size : Nat) : Int) then (4000 : Int) else (((Za L0).size : Nat) : Int))).toNat)))] ((v1 ++ (L0.take ((if (4000 : Int) < (((Za L0).size : Nat) : Int) then (4000 : Int) else (((Za L0).size : Nat) : Int))).toNat)))   N c3  1 (ZcM (Zq (congrArg Value.string sE) rfl)) (by decide) (by decide))) <| Zf (Zs (Zcq (x := v1) (y := (L0.take ((if (4000 : Int) < (((Za L0).size : Nat) : Int) then (4000 : Int) else (((Za L0).size : Nat) : Int))).toNat)) rfl rfl ltA)) <| Zf (Zs (Zcd #[Value.string (Za v1)] (v1)   N c1  1 rfl (by decide) (by decide))) <| Zf (Zs (ZeI (L := v1) (a := 0) (by omega) (by show _ = _ * 1; omega) (by first | rfl | simp))) <| oN Zag) rfl (by decide) (by rfl) rr trivial
   | r1 =>
    exact Mach.ok_fin (M := Zz L0 a1 N) (cd := 1000000) (cm := 0) (r := (.r0 (false) : Zj)) (fu := 4000) (orc := (ZbV [(0, false)] [] [] [] [(0, .bs v1), (1, (Zcc (v1)    1)), (2, (ZaU ((v1 ++ (L0.take ((if (4000 : Int) < (((Za L0).size : Nat) : Int) then (4000 : Int) else (((Za L0).size : Nat) : Int))).toNat)))    1))])) (live := []) (u := vf) (bl := []) (ob := [(dP (Za2 #[Value.string ((Za v1) ++ (Za (L0.take ((if (4000 : Int) < (((Za L0).size : Nat) : Int) then (4000 : Int) else (((Za L0).size : Nat) : Int))).toNat)))] ((v1 ++ (L0.take ((if (4000 : Int) < (((Za L0).size : Nat) : Int) then (4000 : Int) else (((Za L0).size : Nat) : Int))).toNat)))    1), true), (dP (((((Za v1)).size + ((Za (L0.take ((if (4000 : Int) < (((Za L0).size : Nat) : Int) then (4000 : Int) else (((Za L0).size : Nat) : Int))).toNat))).size : Nat) : Int) ≤ IntKind.i64.max), true), (dP (Zb6 #[Value.string (Za v1)] (v1)    1), true), (dP (Zt v1.length (List.drop 0 (Ze (Za9 .u8) v1)) = some (List.map (Value.int .u8) v1)), true), ((decide ((v2 : Int) < (v1.length : Int))), false)]) (fun gv => by kernel_rfl) (Zf (Zs (ZaV #[Value.string ((Za v1) ++ (Za (L0.take ((if (4000 : Int) < (((Za L0).size : Nat) : Int) then (4000 : Int) else (((Za L0).size : Nat) : Int))).toNat)))] ((v1 ++ (L0.take ((if (4000 : Int) < (((Za L0).size : Nat) : Int) then (4000 : Int) else (((Za L0).size : Nat) : Int))).toNat)))   N c3  1 (ZcM (Zq (congrArg Value.string sE) rfl)) (by decide) (by decide))) <| Zf (Zs (Zcq (x := v1) (y := (L0.take ((if (4000 : Int) < (((Za L0).size : Nat) : Int) then (4000 : Int) else (((Za L0).size : Nat) : Int))).toNat)) rfl rfl ltA)) <| Zf (Zs (Zcd #[Value.string (Za v1)] (v1)   N c1  1 rfl (by decide) (by decide))) <| Zf (Zs (ZeI (L := v1) (a := 0) (by omega) (by show _ = _ * 1; omega) (by first | rfl | simp))) <| oN Zag) rfl (by decide) (by rfl) rr trivial
  | r1 =>
   refine Mach.ok_ite (fun g2 => ?_) (fun _ => Mach.ok_none)
   refine Mach.ok_bind (fun z3 c3 => ?_)
   cases z3 with
   | r0 =>
    refine Mach.ok_ite (fun g4 => ?_) (fun g4 => ?_)
    ·
     exact Mach.ok_fin (M := Zz L0 a1 N) (cd := 1000000) (cm := 0) (r := (.r0 (true) : Zj)) (fu := 4000) (orc := (ZbV [(0, false), (7, true)] [] [] [] [(0, .bs v1), (1, (ZaU (v1)    1)), (2, (Zcc ((v1 ++ (L0.take ((if (4000 : Int) < (((Za L0).size : Nat) : Int) then (4000 : Int) else (((Za L0).size : Nat) : Int))).toNat)))    2))])) (live := []) (u := vT) (bl := []) (ob := [((decide ((((Za (L0.take ((if (4000 : Int) < (((Za L0).size : Nat) : Int) then (4000 : Int) else (((Za L0).size : Nat) : Int))).toNat)).size : Nat) : Int) > (0 : Int))), true), (dP (Zb6 #[Value.string ((Za v1) ++ (Za (L0.take ((if (4000 : Int) < (((Za L0).size : Nat) : Int) then (4000 : Int) else (((Za L0).size : Nat) : Int))).toNat)))] ((v1 ++ (L0.take ((if (4000 : Int) < (((Za L0).size : Nat) : Int) then (4000 : Int) else (((Za L0).size : Nat) : Int))).toNat)))    2), true), (dP (((((Za v1)).size + ((Za (L0.take ((if (4000 : Int) < (((Za L0).size : Nat) : Int) then (4000 : Int) else (((Za L0).size : Nat) : Int))).toNat))).size : Nat) : Int) ≤ IntKind.i64.max), true), (dP (Za2 #[Value.string (Za v1)] (v1)    1), true), (dP (Zt v1.length (List.drop 0 (Ze (Za9 .u8) v1)) = some (List.map (Value.int .u8) v1)), true), ((decide ((v2 : Int) < (v1.length : Int))), false)]) (fun gv => by kernel_rfl) (oY <| Zf (Zs (Zcd #[Value.string ((Za v1) ++ (Za (L0.take ((if (4000 : Int) < (((Za L0).size : Nat) : Int) then (4000 : Int) else (((Za L0).size : Nat) : Int))).toNat)))] ((v1 ++ (L0.take ((if (4000 : Int) < (((Za L0).size : Nat) : Int) then (4000 : Int) else (((Za L0).size : Nat) : Int))).toNat)))   N c3  2 (ZcM (Zq (congrArg Value.string sE) rfl)) (by decide) (by decide))) <| Zf (Zs (Zcq (x := v1) (y := (L0.take ((if (4000 : Int) < (((Za L0).size : Nat) : Int) then (4000 : Int) else (((Za L0).size : Nat) : Int))).toNat)) rfl rfl ltA)) <| Zf (Zs (ZaV #[Value.string (Za v1)] (v1)   N c1  1 rfl (by decide) (by decide))) <| Zf (Zs (ZeI (L := v1) (a := 0) (by omega) (by show _ = _ * 1; omega) (by first | rfl | simp))) <| oN Zag) rfl (by decide) (by rfl) rr trivial
    ·
     exact Mach.ok_fin (M := Zz L0 a1 N) (cd := 1000000) (cm := 0) (r := (.r0 (false) : Zj)) (fu := 4000) (orc := (ZbV [(0, false), (7, false)] [] [] [] [(0, .bs v1), (1, (ZaU (v1)    1)), (2, (Zcc ((v1 ++ (L0.take ((if (4000 : Int) < (((Za L0).size : Nat) : Int) then (4000 : Int) else (((Za L0).size : Nat) : Int))).toNat)))    2))])) (live := []) (u := vf) (bl := []) (ob := [((decide ((((Za (L0.take ((if (4000 : Int) < (((Za L0).size : Nat) : Int) then (4000 : Int) else (((Za L0).size : Nat) : Int))).toNat)).size : Nat) : Int) > (0 : Int))), false), (dP (Zb6 #[Value.string ((Za v1) ++ (Za (L0.take ((if (4000 : Int) < (((Za L0).size : Nat) : Int) then (4000 : Int) else (((Za L0).size : Nat) : Int))).toNat)))] ((v1 ++ (L0.take ((if (4000 : Int) < (((Za L0).size : Nat) : Int) then (4000 : Int) else (((Za L0).size : Nat) : Int))).toNat)))    2), true), (dP (((((Za v1)).size + ((Za (L0.take ((if (4000 : Int) < (((Za L0).size : Nat) : Int) then (4000 : Int) else (((Za L0).size : Nat) : Int))).toNat))).size : Nat) : Int) ≤ IntKind.i64.max), true), (dP (Za2 #[Value.string (Za v1)] (v1)    1), true), (dP (Zt v1.length (List.drop 0 (Ze (Za9 .u8) v1)) = some (List.map (Value.int .u8) v1)), true), ((decide ((v2 : Int) < (v1.length : Int))), false)]) (fun gv => by kernel_rfl) (oN <| Zf (Zs (Zcd #[Value.string ((Za v1) ++ (Za (L0.take ((if (4000 : Int) < (((Za L0).size : Nat) : Int) then (4000 : Int) else (((Za L0).size : Nat) : Int))).toNat)))] ((v1 ++ (L0.take ((if (4000 : Int) < (((Za L0).size : Nat) : Int) then (4000 : Int) else (((Za L0).size : Nat) : Int))).toNat)))   N c3  2 (ZcM (Zq (congrArg Value.string sE) rfl)) (by decide) (by decide))) <| Zf (Zs (Zcq (x := v1) (y := (L0.take ((if (4000 : Int) < (((Za L0).size : Nat) : Int) then (4000 : Int) else (((Za L0).size : Nat) : Int))).toNat)) rfl rfl ltA)) <| Zf (Zs (ZaV #[Value.string (Za v1)] (v1)   N c1  1 rfl (by decide) (by decide))) <| Zf (Zs (ZeI (L := v1) (a := 0) (by omega) (by show _ = _ * 1; omega) (by first | rfl | simp))) <| oN Zag) rfl (by decide) (by rfl) rr trivial
   | r1 =>
    refine Mach.ok_ite (fun g4 => ?_) (fun g4 => ?_)
    ·
     exact Mach.ok_fin (M := Zz L0 a1 N) (cd := 1000000) (cm := 0) (r := (.r0 (false) : Zj)) (fu := 4000) (orc := (ZbV [(0, false), (5, true)] [] [] [] [(0, .bs v1), (1, (ZaU (v1)    1)), (2, (ZaU ((v1 ++ (L0.take ((if (4000 : Int) < (((Za L0).size : Nat) : Int) then (4000 : Int) else (((Za L0).size : Nat) : Int))).toNat)))    2))])) (live := []) (u := vf) (bl := []) (ob := [((decide ((((Za (L0.take ((if (4000 : Int) < (((Za L0).size : Nat) : Int) then (4000 : Int) else (((Za L0).size : Nat) : Int))).toNat)).size : Nat) : Int) > (0 : Int))), true), (dP (Za2 #[Value.string ((Za v1) ++ (Za (L0.take ((if (4000 : Int) < (((Za L0).size : Nat) : Int) then (4000 : Int) else (((Za L0).size : Nat) : Int))).toNat)))] ((v1 ++ (L0.take ((if (4000 : Int) < (((Za L0).size : Nat) : Int) then (4000 : Int) else (((Za L0).size : Nat) : Int))).toNat)))    2), true), (dP (((((Za v1)).size + ((Za (L0.take ((if (4000 : Int) < (((Za L0).size : Nat) : Int) then (4000 : Int) else (((Za L0).size : Nat) : Int))).toNat))).size : Nat) : Int) ≤ IntKind.i64.max), true), (dP (Za2 #[Value.string (Za v1)] (v1)    1), true), (dP (Zt v1.length (List.drop 0 (Ze (Za9 .u8) v1)) = some (List.map (Value.int .u8) v1)), true), ((decide ((v2 : Int) < (v1.length : Int))), false)]) (fun gv => by kernel_rfl) (oY <| Zf (Zs (ZaV #[Value.string ((Za v1) ++ (Za (L0.take ((if (4000 : Int) < (((Za L0).size : Nat) : Int) then (4000 : Int) else (((Za L0).size : Nat) : Int))).toNat)))] ((v1 ++ (L0.take ((if (4000 : Int) < (((Za L0).size : Nat) : Int) then (4000 : Int) else (((Za L0).size : Nat) : Int))).toNat)))   N c3  2 (ZcM (Zq (congrArg Value.string sE) rfl)) (by decide) (by decide))) <| Zf (Zs (Zcq (x := v1) (y := (L0.take ((if (4000 : Int) < (((Za L0).size : Nat) : Int) then (4000 : Int) else (((Za L0).size : Nat) : Int))).toNat)) rfl rfl ltA)) <| Zf (Zs (ZaV #[Value.string (Za v1)] (v1)   N c1  1 rfl (by decide) (by decide))) <| Zf (Zs (ZeI (L := v1) (a := 0) (by omega) (by show _ = _ * 1; omega) (by first | rfl | simp))) <| oN Zag) rfl (by decide) (by rfl) rr trivial
    ·
     exact Mach.ok_fin (M := Zz L0 a1 N) (cd := 1000000) (cm := 0) (r := (.r0 (true) : Zj)) (fu := 4000) (orc := (ZbV [(0, false), (5, false)] [] [] [] [(0, .bs v1), (1, (ZaU (v1)    1)), (2, (ZaU ((v1 ++ (L0.take ((if (4000 : Int) < (((Za L0).size : Nat) : Int) then (4000 : Int) else (((Za L0).size : Nat) : Int))).toNat)))    2))])) (live := []) (u := vT) (bl := []) (ob := [((decide ((((Za (L0.take ((if (4000 : Int) < (((Za L0).size : Nat) : Int) then (4000 : Int) else (((Za L0).size : Nat) : Int))).toNat)).size : Nat) : Int) > (0 : Int))), false), (dP (Za2 #[Value.string ((Za v1) ++ (Za (L0.take ((if (4000 : Int) < (((Za L0).size : Nat) : Int) then (4000 : Int) else (((Za L0).size : Nat) : Int))).toNat)))] ((v1 ++ (L0.take ((if (4000 : Int) < (((Za L0).size : Nat) : Int) then (4000 : Int) else (((Za L0).size : Nat) : Int))).toNat)))    2), true), (dP (((((Za v1)).size + ((Za (L0.take ((if (4000 : Int) < (((Za L0).size : Nat) : Int) then (4000 : Int) else (((Za L0).size : Nat) : Int))).toNat))).size : Nat) : Int) ≤ IntKind.i64.max), true), (dP (Za2 #[Value.string (Za v1)] (v1)    1), true), (dP (Zt v1.length (List.drop 0 (Ze (Za9 .u8) v1)) = some (List.map (Value.int .u8) v1)), true), ((decide ((v2 : Int) < (v1.length : Int))), false)]) (fun gv => by kernel_rfl) (oN <| Zf (Zs (ZaV #[Value.string ((Za v1) ++ (Za (L0.take ((if (4000 : Int) < (((Za L0).size : Nat) : Int) then (4000 : Int) else (((Za L0).size : Nat) : Int))).toNat)))] ((v1 ++ (L0.take ((if (4000 : Int) < (((Za L0).size : Nat) : Int) then (4000 : Int) else (((Za L0).size : Nat) : Int))).toNat)))   N c3  2 (ZcM (Zq (congrArg Value.string sE) rfl)) (by decide) (by decide))) <| Zf (Zs (Zcq (x := v1) (y := (L0.take ((if (4000 : Int) < (((Za L0).size : Nat) : Int) then (4000 : Int) else (((Za L0).size : Nat) : Int))).toNat)) rfl rfl ltA)) <| Zf (Zs (ZaV #[Value.string (Za v1)] (v1)   N c1  1 rfl (by decide) (by decide))) <| Zf (Zs (ZeI (L := v1) (a := 0) (by omega) (by show _ = _ * 1; omega) (by first | rfl | simp))) <| oN Zag) rfl (by decide) (by rfl) rr trivial

theorem Zhf (L0 : List Int) (a1 : Int) (N : Nat) : (Zz L0 a1 N).Enter Tryd.prog Zav #[Value.string (Za L0), Value.int .u8 a1] (ZbC L0 a1 N) := by
 unfold ZbC
 exact Mach.en_head (bK := Za3 1) (M := Zz L0 a1 N) (cd := 1000000) (cm := 0) (y := (.h1m0 ((List.replicate 262144 (0 : Int))) (0) : Zv)) (fu := 4000) (orc := (ZbV [] [] [] [] [(0, .bs (L0.take ((if (4000 : Int) < (((Za L0).size : Nat) : Int) then (4000 : Int) else (((Za L0).size : Nat) : Int))).toNat)), (1, .mk 262144 262144 (Ze (Za9 .u8) (List.replicate 262144 (0 : Int))))])) (live := [0]) (tv := [some (Value.string (Za (L0.take ((if (4000 : Int) < (((Za L0).size : Nat) : Int) then (4000 : Int) else (((Za L0).size : Nat) : Int))).toNat))), some (vs 0 0 262144 262144), some (vq)]) (bl := [some (.cells (Ze (Za9 .u8) (List.replicate 262144 (0 : Int))) 5)]) (ob := [(dP (262144 ≤ 262144 ∧ 262144 ≤ 300000 ∧ Ev.rep [Value.int .u8 (0 : Int)] (262144 * 1) = (Ze (Za9 .u8) (List.replicate 262144 (0 : Int)))), true), ((262144 : Int) == Int.ofNat 262144, true), ((262144 : Int) == Int.ofNat 262144, true), (dP (0 ≤ (0 : Int) ∧ (0 : Int) ≤ (if (4000 : Int) < (((Za L0).size : Nat) : Int) then (4000 : Int) else (((Za L0).size : Nat) : Int)) ∧ (if (4000 : Int) < (((Za L0).size : Nat) : Int) then (4000 : Int) else (((Za L0).size : Nat) : Int)) ≤ ((((Za L0)).size : Nat) : Int) ∧ ((Za L0)).extract ((0 : Int)).toNat ((if (4000 : Int) < (((Za L0).size : Nat) : Int) then (4000 : Int) else (((Za L0).size : Nat) : Int))).toNat = Za (L0.take ((if (4000 : Int) < (((Za L0).size : Nat) : Int) then (4000 : Int) else (((Za L0).size : Nat) : Int))).toNat)), true)]) rfl rfl (show ZV (Za3 1).2 = [] from rfl) (by kernel_rfl) (Zf (Zs ⟨by omega, by omega, ZnH (E := (Za9 .u8)) (0 : Int) 262144 (by decide) rfl rfl⟩) <| oI <| oI <| Zf (Zs (sSl (M := L0) (R := (L0.take ((if (4000 : Int) < (((Za L0).size : Nat) : Int) then (4000 : Int) else (((Za L0).size : Nat) : Int))).toNat)) rfl (by (try simp only [ZR] at *); omega) (by (try simp only [ZR] at *); omega) (by (try simp only [ZR] at *); omega) (by first | rfl | simp))) Zag) rfl (by decide) (by rfl) ⟨rr, ⟨⟨Eq.trans (show (vs 0 0 (List.replicate 262144 (0 : Int)).length (List.replicate 262144 (0 : Int)).length : Value) = vs 0 0 262144 262144 from (ZcL rfl List.length_replicate List.length_replicate)) (by rfl), by rfl⟩, ⟨⟨Eq.trans (show (vi ((0 : Nat) : Int) : Value) = vq from (congrArg (Value.int .i64) (by first | rfl | omega))) (by rfl), by rfl⟩, trivial⟩⟩⟩ ⟨(Zkk (E := (Za9 .u8)) (α := Int) _ (List.replicate 262144 (0 : Int)) _), trivial⟩

theorem ZfS (L0 : List Int) (a1 : Int) (N : Nat) (r : Zj) (h : Zdi L0 a1 N = some r) : LSpec Tryd.prog 6 #[Value.string (Za L0), Value.int .u8 a1] [] (ZeL L0 a1 r) (Zeg L0 a1 r) :=
 Mach.spec Zgo (Zz L0 a1 N) Tryd.func6 (by kernel_rfl) (by kernel_rfl) (fun x => by cases x <;> exact Zdb _ rfl) (fun r => by cases r <;> exact Zdb _ rfl) (fun x => by
  cases x with
  | h1m0 _ _ => exact fun _ => (show ¬ (1 ∈ ZV (Za3 1).2) from by decide +kernel)
  ) (fun x => (show (Zz L0 a1 N).Ok Tryd.prog Zav x (Zah L0 a1 N x) from by
  cases x with
  | h1m0 v1 v2 => exact Zfp L0 a1 v1 v2 N
  )) (Zhf L0 a1 N) (n := N) h

end Ev
end Go.Proofs.YtlbbiflodemagaaDoor
/- Plain lemmas: machines step by step, lists by their places. -/
namespace Go.Proofs.YtlbbiflodemagaaDoor
open Go.RowKit
namespace Ev
section
variable {X R : Type} {step : X → Option (X ⊕ R)} {n : Nat} {x y : X} {r : R}
theorem ZiK (h : step x = some (.inl y)) : Zbi step (n + 1) x = Zbi step n y := by simp [Zbi, h]
theorem ZfT (h : step x = some (.inr r)) : Zbi step (n + 1) x = some r := by simp [Zbi, h]
theorem Zip : ∀ {n m : Nat} {x : X} {r : R}, n ≤ m → Zbi step n x = some r → Zbi step m x = some r
 | 0, _, _, _, _, h => by cases h
 | n + 1, 0, _, _, h, _ => by omega
 | n + 1, m + 1, x, r, h, e => by
  simp only [Zbi] at e ⊢
  cases hs : step x with
  | none => rw [hs] at e; cases e
  | some y =>
   rw [hs] at e
   cases y with
   | inl y => exact Zip (by omega) e
   | inr r' => exact e
theorem Zks {o : Option (X ⊕ R)} (h : o = some (.inl x)) : goM step n o = Zbi step n x := by subst h; rfl
end
section
variable {α : Type}
end
theorem Zb7 {α : Type} {c : Prop} [Decidable c] {a b r : α} (h : c) (e : a = r) : (if c then a else b) = r := by rw [if_pos h]; exact e
theorem ZfU {α : Type} {c : Prop} [Decidable c] {a b r : α} (h : ¬ c) (e : b = r) : (if c then a else b) = r := by rw [if_neg h]; exact e
theorem ZeM {α β : Type} {o : Option α} {a : α} {k : α → Option β} {r : Option β} (h : o = some a) (e : k a = r) : o.bind k = r := by rw [h]; exact e
end Ev
end Go.Proofs.YtlbbiflodemagaaDoor
/- AsmLong, plainly. -/
namespace Go.Proofs.YtlbbiflodemagaaDoor
open Go.RowKit
namespace Ev
set_option linter.unusedVariables false
theorem Zhg {x : List Int} : ZgV x [] = true ↔ x = [] := by
 constructor
 ·intro h
  have h1 : Za x = Za [] := bEq.1 h
  have h2 := congrArg ByteArray.size h1
  rw [ZR, ZR] at h2
  exact List.length_eq_zero_iff.1 h2
 ·intro h
  subst h
  exact bEq.2 rfl
theorem ZmZ (n : Nat) : ZM (List.replicate n 10) = true := by
 induction n with
 | zero => rfl
 | succ n ih => rw [List.replicate_succ, ZaM]; exact ⟨by decide, ih⟩
theorem ZnL (A : List Int) (a1 : Int) (B : List R_si) (N n : Nat) (h : n < 262144) (v2 : Int) :
  ZG A a1 B N (.h1m0 (List.replicate (n + 1) 10) v2) = some (.inl (.h1m0 (List.replicate n 10) (IntKind.i64.wrap (v2 + 1)))) := by
 have e1 : Zal 10 (List.replicate (n + 1) 10) = [] := by simp [List.replicate_succ, Zal]
 have e2 : Zb0 10 (List.replicate (n + 1) 10) = List.replicate n 10 := by simp [List.replicate_succ, Zb0]
 have e3 : Zbh 10 (List.replicate (n + 1) 10) = true := by simp [List.replicate_succ, Zbh]
 show ZC A a1 B N (List.replicate (n + 1) 10) v2 = _
 unfold ZC
 refine Zb7 (fun hh => ?_) <| Zb7 (ZmZ _) <| Zb7 (by rw [List.length_replicate]; omega) <| Zb7 e3 <| Zb7 (by rw [e1]; exact Zhg.2 rfl) ?_
 ·have := Zhg.1 hh
  rw [List.replicate_succ] at this
  cases this
 ·rw [e2]
theorem Zo0 (A : List Int) (a1 : Int) (B : List R_si) (N : Nat) (v2 : Int) (hN : 0 < N) : ∃ y, ZG A a1 B N (.h1m0 [] v2) = some (.inr (.r0 [] y)) := by
 refine ⟨v2, ?_⟩
 show ZC A a1 B N [] v2 = _
 unfold ZC
 refine ZfU (fun hh => hh (Zhg.2 rfl)) ?_
 refine ZeM (a := .r0) ?_ rfl
 obtain ⟨n, rfl⟩ : ∃ n, N = n + 1 := ⟨N - 1, by omega⟩
 unfold ZbR
 rw [Zks (o := Zb1 [] v2 [] [] [] [] B (n + 1)) (x := asm_reader_aimX.h1m0) rfl]
 refine ZfT ?_
 show Zam [] v2 [] [] [] [] B (n + 1) = _
 unfold Zam
 exact ZfU (by simp) rfl
theorem Zkt (A : List Int) (a1 : Int) (B : List R_si) (N : Nat) (hN : 0 < N) : ∀ (n : Nat) (h : n ≤ 262144) (v2 : Int), ∃ y, Zbi (ZG A a1 B N) (n + 1) (.h1m0 (List.replicate n 10) v2) = some (.r0 [] y)
 | 0, _, v2 => by
  obtain ⟨y, hy⟩ := Zo0 A a1 B N v2 hN
  exact ⟨y, ZfT hy⟩
 | n + 1, h, v2 => by
  obtain ⟨y, hy⟩ := Zkt A a1 B N hN n (by omega) (IntKind.i64.wrap (v2 + 1))
  exact ⟨y, (ZiK (ZnL A a1 B N n (by omega) v2)).trans hy⟩
theorem ZiL (K N : Nat) (hK : K ≤ 262144) (hN : K < N) : Zaj (List.replicate K 10) N = some .r1 := by
 unfold Zaj
 refine ZfU (by rw [ZR, List.length_replicate]; omega) ?_
 obtain ⟨y, hy⟩ := Zkt (List.replicate K 10) 0 [] N (by omega) K hK 0
 refine ZeM (a := .r0 [] y) ?_ rfl
 unfold ZbB
 rw [Zks (x := .h1m0 (List.replicate K 10) 0) (by rfl)]
 exact Zip (by omega) hy
theorem Zmh (M : List Int) (N : Nat) (h : 262144 < M.length) : Zaj M N = some .r0 := by
 unfold Zaj
 exact Zb7 (by rw [ZR]; omega) rfl
theorem ZnM (i k : Nat) : (List.replicate i (10 : Int) ++ List.replicate (k + 1) 0).set i 10 = List.replicate (i + 1) 10 ++ List.replicate k 0 := by
 rw [List.set_append_right _ _ (by simp)]
 rw [List.length_replicate, Nat.sub_self, List.replicate_succ, List.set_cons_zero, List.replicate_succ']
 simp
theorem ZnN (L0 : List Int) (a1 : Int) (N K : Nat) (hK : K = 262144) (hN : K < N) : Zah L0 a1 N (.h1m0 (List.replicate K 10) K) = some (.inr (.r0 true)) := by
 show ZJ L0 a1 N (List.replicate K 10) K = _
 unfold ZJ
 refine ZfU (by rw [List.length_replicate]; omega) ?_
 refine ZeM (ZiL K N (by omega) hN) ?_
 generalize hT : L0.take ((if (4000 : Int) < (((Za L0).size : Nat) : Int) then (4000 : Int) else (((Za L0).size : Nat) : Int))).toNat = T
 have hl : T.length ≤ 4000 := by
  rw [← hT, List.length_take]
  split <;> omega
 refine Zb7 (by rw [List.length_replicate]; omega) ?_
 by_cases h0 : T = []
 ·subst h0
  rw [List.append_nil]
  refine ZeM (ZiL K N (by omega) hN) ?_
  exact ZfU (by rw [ZR]; simp) rfl
 ·have hp : 0 < T.length := List.length_pos_iff.2 h0
  refine ZeM (Zmh _ N (by rw [List.length_append, List.length_replicate]; omega)) ?_
  exact Zb7 (by rw [ZR]; omega) rfl
theorem ZiM (L0 : List Int) (a1 : Int) (N K : Nat) (hK : K = 262144) (hN : K < N) : ∀ (k i : Nat), i + k = K → Zbi (Zah L0 a1 N) (k + 1) (.h1m0 (List.replicate i 10 ++ List.replicate k 0) i) = some (.r0 true)
 | 0, i, h => by
  obtain rfl : i = K := by omega
  rw [List.replicate_zero, List.append_nil]
  exact ZfT (ZnN L0 a1 N i hK hN)
 | k + 1, i, h => by
  refine (ZiK (y := .h1m0 (List.replicate (i + 1) 10 ++ List.replicate k 0) (i + 1)) ?_).trans (ZiM L0 a1 N K hK hN k (i + 1) (by omega))
  show ZJ L0 a1 N _ i = _
  unfold ZJ
  refine Zb7 (by rw [List.length_append, List.length_replicate, List.length_replicate]; omega) <| Zb7 (by omega) ?_
  rw [ZnM]
theorem Aln.runs (L0 : List Int) (a1 : Int) (N : Nat) (f0 : ZM L0 = true) (w1 : IntKind.u8.has a1) (hN : 262144 < N := by decide) : Zdi L0 a1 N = some (.r0 true) := by
 unfold Zdi
 have hK : ∃ K, K = 262144 := ⟨_, rfl⟩
 obtain ⟨K, hK⟩ := hK
 have e : ZbC L0 a1 N = some (.inl (.h1m0 (List.replicate 0 10 ++ List.replicate K 0) 0)) := by
  rw [hK]
  rfl
 rw [Zks e]
 exact Zip (by omega) (ZiM L0 a1 N K hK (by omega) K 0 (by omega))
end Ev
end Go.Proofs.YtlbbiflodemagaaDoor
/- A region that draws its order, whose first operations only read (and make memory in calls), and whose last ones, in a forced order among themselves, make and write new memory: but these may come up early. -/
namespace Go.Proofs.YtlbbiflodemagaaDoor
open Go.RowKit

section
variable {P : Program}

def Calm (P : Program) (W : World) (o : Oper) (a : Act) (v : Value) : Prop :=
 ∀ w, Below W.heap.size W w → o.quietAt P a (fun w' => Below w.heap.size w w') w v

def YieldsC (P : Program) (ops : Array Oper) (W : World) (o : Oper) (v : Value) (a : Act) : Prop :=
 (Region.wanted o (yielded ops a.tmps) = true ∧ Calm P W o a v) ∨ (Region.wanted o (yielded ops a.tmps) = false ∧ v = undef)
theorem ZiN {a b c : World} (h : Below a.heap.size a b) (k : Below b.heap.size b c) : Below a.heap.size a c := h.trans (k.mono h.size)

def Closed (md : Region.Mode) (ops : Array Oper) (listed : Array Bool) : Prop :=
 ∀ j oj, ops[j]? = some oj → listed.getD j false = true → ∀ e ∈ oj.after, Region.binds md e = true → listed.getD e.on false = true
def Zku (md : Region.Mode) (ops : Array Oper) : Nat → Nat → Nat → Bool
 | 0, _, _ => false
 | f + 1, t, i => Region.waitsFor md ops t i || (List.range ops.size).any fun k => Region.waitsFor md ops t k && Zku md ops f k i
theorem Closed.waits {md : Region.Mode} {ops : Array Oper} {listed : Array Bool} (h : Closed md ops listed) : ∀ (f t i : Nat), listed.getD t false = true → Zku md ops f t i = true → listed.getD i false = true
 | 0, _, _, _, hw => by cases hw
 | f + 1, t, i, ht, hw => by
  simp only [Zku, Bool.or_eq_true, List.any_eq_true, Bool.and_eq_true] at hw
  rcases hw with hw | ⟨k, _, hw, hr⟩
  ·obtain ⟨o, ho, e, he, hb, rfl⟩ := Region.waitsFor_spec hw
   exact h t o ho ht e he hb
  ·obtain ⟨o, ho, e, he, hb, rfl⟩ := Region.waitsFor_spec hw
   exact h.waits f e.on i (h t o ho ht e he hb) hr

theorem YieldsC.wpOp {ops : Array Oper} {W : World} {i : Nat} {o : Oper} {v : Value} {a : Act} {w : World} (hi : ops[i]? = some o) (hy : YieldsC P ops W o v a) (hb : Below W.heap.size W w)
  {K : Act → World → Prop} {Q : Exit → Act → World → Prop} (h : ∀ w', Below w.heap.size w w' → K (a.put o.dst v) w') : wpOp P ops Q i K a w := by
 unfold Go.wpOp
 simp only [hi]
 rcases hy with ⟨hw, hv⟩ | ⟨hw, rfl⟩
 ·simp only [hw, if_true]
  exact .inl (Oper.wp_of_quiet (C := fun w' => Below w.heap.size w w') (K := fun a' => a' = a.put o.dst v) (Below.refl _ _) (fun a' w' hw' ha => by subst ha; exact h w' hw')
   ⟨v, fun w1 hw1 => by
    have h1 := hv w1 (ZiN hb hw1)
    unfold Oper.quietAt at h1 ⊢
    generalize (execOp a.eval o).run P w1 = r at *
    cases r with
    | ok n w' =>
     cases n <;> simp only [Oper.quietUpon] at h1 ⊢
     case value u => exact h1
     case skip => exact h1
     case enter f args => exact ⟨h1.1, h1.2.mono fun e w2 ⟨he, hb2⟩ => ⟨he, ZiN hw1 hb2⟩⟩
    | halt x w' => simp only [Oper.quietUpon] at h1, rfl⟩)
 ·simp only [hw, Bool.false_eq_true, if_false]
  exact h w (Below.refl _ _)

end
end Go.Proofs.YtlbbiflodemagaaDoor
/- The frame of a law whose row lists tables: from what is laid to the tables that the runner knows. -/
namespace Go.Proofs.YtlbbiflodemagaaDoor
open Go.ChangeShapes Go.WideShapes Go.ChangeAt Go.RowKit
section
variable {H : Type} {enc : TypeId × Value → H} {P : Program}
theorem Zmi {C : Checked} {os : Os} {F : FuncId} {fn : Func} {s : ChangeSpec} {tb : TypeId} {laid : List (String × DataW Unit)}
  (own : ownKnob C.prog.godebug = none) (started : os.Started) (noInit : C.prog.inits.idxOf? F = none) (hfn : C.prog.funcs[F]? = some fn)
  (hv : s.vars = []) (hrt : fn.resultTypes = #[tb]) (hub : C.prog.underlying tb = some .bool)
  (hspec : ∀ ds : List (DataW H), ds.length = fn.params.size → s.fn H ds = { results := [.lit (.bool true)], args := ds })
  (hl : laidOutB C.prog = true) (hr : (fn.params.toList.all fun t => C.prog.readableRec t && decide (t < C.prog.types.size)) = true)
  (witness : ∃ (w : World) (tape : Tape) (i : Input), w.os = os ∧ (w.forCall tape i).Shaped C.prog ∧ i.vars = [] ∧ Input.okWide C.prog (w.forCall tape i) .any w.heap.size F i ∧
   ((s.pre enc C.prog fn [] false (w.forCall tape i).memory i.args ∧ laidMetH C.prog laid (w.forCall tape i).memory) ∧ sizedMet enc C.prog fn (OpenSpec.ofChange s) false (w.forCall tape i).memory i.args) ∧ ({} : Assume).holds C.prog (lone (Frame.enter C.prog F i.args .normal) [] (w.forCall tape i)))
  (walk : ∀ (W : World) (base : Nat) (args : Array Value) (ds : List (DataW H)) (p : List MemPlace),
   (∀ (j : Nat) t v, fn.params[j]? = some t → args[j]? = some v → Value.okWide C.prog W .any base t v) →
   DataW.TrodAll enc C.prog W 0 (fun _ => true) true fn.params.toList args.toList ds p → (∀ x ∈ p, x.block < W.heap.size) →
   (DataW.weightsEach C.prog fn.params.toList ds).all (· ≤ reachBytes) = true → laidMetH C.prog laid W →
   Calls C.prog F args W (Ret (.bool true) W)) :
  ReturnsInHanded {} C os F .any (fun w args => (s.pre enc C.prog fn [] false w args ∧ laidMetH C.prog laid w) ∧ sizedMet enc C.prog fn (OpenSpec.ofChange s) false w args) (s.post enc C.prog fn false true false false) := by
 refine returnsInHanded_of_change_and (X := fun w _ => laidMetH C.prog laid w) (fun _ _ _ hh h => h.of_heap hh) own started noInit hfn witness ?_
 intro W base args ds gs before hval hW _ hsz hL _
 have hlt : ∀ x ∈ before, x.block < W.heap.size := fun x hx => hW.lt x hx
 obtain ⟨p, q, hA, hV, hps, hfz, hnd⟩ := id hW
 rw [hv] at hV
 obtain ⟨rfl, rfl⟩ := trodVars_none hV
 rw [List.append_nil] at hps
 subst hps
 have hvt : s.plain.varTypes C.prog = [] := by simp [ChangeSpec.plain, DataSpec.varTypes, hv]
 rw [hvt, List.append_nil, List.append_nil] at hsz
 refine (walk W base args ds before hval hA hlt hsz hL).mono fun e W' ⟨he, hb⟩ => ⟨_, he, ?_⟩
 have hlen : ds.length = fn.params.size := by
  have : ∀ {ts : List TypeId} {vs : List Value} {ds : List (DataW H)} {ps : List MemPlace}, DataW.TrodAll enc C.prog W 0 (fun _ => true) true ts vs ds ps → ds.length = ts.length := by
   intro ts
   induction ts with
   | nil => intro vs ds ps h; obtain ⟨_, rfl, _⟩ := trodAll_nil h; rfl
   | cons t ts ih => intro vs ds ps h; obtain ⟨_, _, _, _, _, _, _, rfl, _, _, r⟩ := trodAll_cons h; simp [ih r]
  simpa using this hA
 have hs := hspec (ds ++ []) (by simpa using hlen)
 refine ⟨ds, [], before, [], before, [], by simpa [hv] using hW, ?_, ?_, ?_, World.keptBut_mono (fun x hx => ⟨hx, .inr (.inl hx)⟩) (hb.frame (· ∈ before)), fun h => by cases h⟩
 ·rw [hs, hrt]
  exact trodAll_mk1 (shut_bool hub true)
 ·rw [hs]
  simpa using ZfG hl hb hr hA hlt
 ·rw [hs, hv]
  rfl
end
namespace Ev
theorem ZgB {P : Program} {W : World} {n : String} {g : Nat} {cs : Array Value} (hg : P.globalNamed n = some g) (h : W.var? P n = some cs) : ∃ t fr, W.heap[g]? = some (.cells cs t fr) := by
 simp only [World.var?, hg, Option.bind_some] at h
 split at h
 ·rename_i c t fr hW
  injection h with h; subst h
  exact ⟨t, fr, hW⟩
 ·cases h
def pow10 : List Int := [1, 10, 100, 1000, 10000, 100000, 1000000, 10000000, 100000000, 1000000000, 10000000000, 100000000000, 1000000000000, 10000000000000, 100000000000000, 1000000000000000, 10000000000000000, 100000000000000000, 1000000000000000000, 10000000000000000000]
theorem ZiU {H : Type} {enc : TypeId × Value → H} {P : Program} {w : World} {base : Nat} {sp : Nat → Bool} {fuel : Nat} {t : TypeId} {ms : Array (String × TypeId)} {cs : List Value} {nm : String} {d : DataW H} {p : List MemPlace}
  (hi : P.underlying t = some (.interface ms)) (h : DataW.trod enc P w base sp false fuel t cs = some (.iface nm d, p)) : ∃ u v, cs = [.iface u v] := by
 cases fuel with
 | zero => simp [DataW.trod] at h
 | succ fuel =>
  rcases cs with _ | ⟨v, _ | ⟨v', r⟩⟩
  ·simp [DataW.trod, hi] at h
  ·cases v <;> first | exact ⟨_, _, rfl⟩ | (simp [DataW.trod, hi] at h)
  ·simp [DataW.trod, hi] at h
theorem ZgC {P : Program} {W : World} {n nm : String} {d : DataW Unit} {g : Nat} {ti : TypeId} {ms : Array (String × TypeId)} (hg : P.globalNamed n = some g) (ht : (P.globals[g]?).map (·.type) = some ti) (hi : P.underlying ti = some (.interface ms))
  (h : laidMet P [(n, .iface nm d)] W) : ∃ C t fr, W.heap[g]? = some (.cells C t fr) ∧ Znf [] C := by
 obtain ⟨ps, ⟨g0, t0, cs0, f0, p0, q0, hg0, ht0, hv0, hd0, _, _⟩, _⟩ := h
 obtain rfl := Option.some.inj (hg.symm.trans hg0)
 obtain rfl := Option.some.inj (ht.symm.trans ht0)
 obtain ⟨u, v, hl⟩ := ZiU hi hd0
 obtain ⟨t, fr, h3⟩ := ZgB hg hv0
 refine ⟨_, t, fr, h3, .iface u v, ?_, .inr ⟨_, _, rfl⟩⟩
 obtain ⟨l0⟩ := cs0
 obtain rfl : l0 = _ := hl
 rfl
theorem tabw_of_laid {W : World} {laid : List (String × DataW Unit)} (hl : (laid.filter fun x => x.1 == "internal/strconv.uint64pow10") = [("internal/strconv.uint64pow10", Go.Lib.tabData .u64 pow10)])
    {x1 : List UInt8} (he1 : (laid.filter fun x => x.1 == "strconv.ErrSyntax") = [("strconv.ErrSyntax", .iface "*errors.errorString" (.ptr (.agg [.lit (.string x1)])))])
    {x2 : List UInt8} (he2 : (laid.filter fun x => x.1 == "strconv.ErrRange") = [("strconv.ErrRange", .iface "*errors.errorString" (.ptr (.agg [.lit (.string x2)])))])
    (h : laidMetH Tryd.prog laid W) : TabW W := by
  have h1 := laidMetH.filter (fun x => x.1 == "internal/strconv.uint64pow10") h
  rw [hl, MakeChecks.laidMetH_plain _ _ _ (by rfl)] at h1
  have h2 := Go.Lib.tabIs_of_head (g := 0) (t := 109) (e := 95) (n := 20) (by kernel_rfl) (by kernel_rfl) Tryd.underlying109 Tryd.underlying95 (by kernel_rfl) (by kernel_rfl) h1
  obtain ⟨t, fr, h3⟩ := ZgB (g := 0) (by kernel_rfl) h2
  have g1 := laidMetH.filter (fun x => x.1 == "strconv.ErrSyntax") h
  rw [he1, MakeChecks.laidMetH_plain _ _ _ (by rfl)] at g1
  have e1 := ZgC (g := 6) (ti := 64) (by kernel_rfl) (by kernel_rfl) Tryd.underlying64 g1
  have g2 := laidMetH.filter (fun x => x.1 == "strconv.ErrRange") h
  rw [he2, MakeChecks.laidMetH_plain _ _ _ (by rfl)] at g2
  have e2 := ZgC (g := 7) (ti := 64) (by kernel_rfl) (by kernel_rfl) Tryd.underlying64 g2
  intro x hx
  simp only [tabs, List.mem_cons, List.not_mem_nil, or_false] at hx
  rcases hx with rfl | rfl | rfl
  · exact ⟨_, t, fr, h3, rfl⟩
  · exact e1
  · exact e2
end Ev
end Go.Proofs.YtlbbiflodemagaaDoor
/- The law AsmLong, for every input. -/
namespace Go.Proofs.YtlbbiflodemagaaDoor
open Go.ChangeShapes Go.WideShapes Go.ChangeAt Go.RowKit
namespace Ev
namespace AsmLong
set_option linter.unusedVariables false
theorem own : ownKnob Tryd.prog.godebug = none := by kernel_rfl
set_option maxRecDepth 100000 in
theorem lifted (os : Os) (started : os.Started) (H : Type) (enc : TypeId × Value → H) :
  ReturnsInHanded {} Tryd.checked os 6 .any (fun w args => (Rows.asmLongSpec.pre enc Tryd.prog Tryd.f6 [] false w args ∧ laidMetH Tryd.prog Rows.asmLongRow.laid w) ∧ sizedMet enc Tryd.prog Tryd.f6 (OpenSpec.ofChange Rows.asmLongSpec) false w args) (Rows.asmLongSpec.post enc Tryd.prog Tryd.f6 false true false false) := by
 refine Zmi (laid := Rows.asmLongRow.laid) (C := Tryd.checked) own started (by kernel_rfl) Tryd.func6 rfl rfl Tryd.underlying4 ?_ (by kernel_rfl) (by kernel_rfl)
  (ChangeSpec.witness_shaped (enc := enc) (C := Tryd.checked) (os := os) (X := fun w _ => laidMetH Tryd.prog Rows.asmLongRow.laid w) false (World.laidAll Tryd.prog os Rows.asmLongRow.laid) #[.string ⟨#[]⟩, .int .u8 0] 8 (World.laidAll_os _ _ _)
   (World.shaped_of_ZipB (by kernel_rfl) (by kernel_rfl)) (by kernel_rfl) (by kernel_rfl) (by kernel_rfl)
   (by rw [MakeChecks.laidMetH_plain _ _ _ (by kernel_rfl)]; exact laidMet_laidAll _ (by kernel_rfl) (by kernel_rfl))) ?_
 ·intro ds hlen
  have hlen : ds.length = 2 := hlen.trans (by kernel_rfl)
  match ds, hlen with
  | [_, _], _ => rfl
 intro W base args ds p hval hA hlt hsz hLaid
 have ht : TabW W := tabw_of_laid (by rfl) (by rfl) (by rfl) hLaid
 rw [Tryd.params6] at hA hval
 obtain ⟨v0, vs0, d0, ds0, p0, q0, hargs, rfl, rfl, h0, r0⟩ := trodAll_cons hA
 obtain ⟨v1, vs1, d1, ds1, p1, q1, rfl, rfl, rfl, h1, r1⟩ := trodAll_cons r0
 obtain ⟨rfl, rfl, rfl⟩ := trodAll_nil r1
 obtain rfl : args = #[v0, v1] := by cases args; simp_all
 obtain ⟨b0, rfl⟩ := Zma (by kernel_rfl) (ZhI (by kernel_rfl) (hval 0 9 v0 rfl rfl))
 obtain ⟨S0, rfl, f0⟩ := ZnI b0
 obtain ⟨z1, rfl, w1⟩ := ZlZ (k := .u8) (by kernel_rfl) (ZhI (by kernel_rfl) (hval 1 5 v1 rfl rfl))
 exact ZmN (ZfS S0 z1 600000 _ (Aln.runs S0 z1 600000 f0 w1)) (ZjJ (.atom rfl) (ZjJ (.atom rfl) Zla)) rfl
theorem over : Rows.asmLongRow.holds Tryd.pinned (OpenSpec.ofChange Rows.asmLongSpec) :=
 OpenClaim.holds_of_wide 6 Tryd.f6 rfl rfl rfl rfl rfl rfl rfl ⟨rfl, rfl, rfl, rfl, rfl⟩ rfl rfl rfl rfl rfl (by kernel_rfl) Tryd.func6 (by kernel_rfl)
  (of_decide_eq_true (by kernel_rfl)) (by unfold Func.isWrapper; first | (rw [if_pos (by decide +kernel)]; kernel_rfl) | (rw [if_neg (by decide +kernel)]; exact ⟨rfl, rfl⟩))
  (fun os started H enc _ => lifted os started H enc)
theorem proved : Rows.AsmLongCardSaid :=
 Claim7.holds_tied_plain_at .later [] [.data, .data, .data, .data, .sentinel, .sentinel, .pinned] true Rows.asmLongCard.stood.harness true over (fun _ h => by cases h) (by kernel_rfl) (fun _ h => by cases h) asmLong_row_tie rfl ⟨rfl, rfl⟩ (by kernel_rfl) rfl
  (fun f fn hf hfn => by
   obtain rfl : f = 6 := Option.some.inj ((show Tryd.prog.funcNamed "gantlet/gantletlaw13.AsmLong" = some 6 by kernel_rfl).symm.trans hf) |>.symm
   obtain rfl : fn = Tryd.f6 := (Option.some.inj (Tryd.func6.symm.trans hfn)).symm
   exact ⟨by kernel_rfl, fun j t ht => by
    rw [Tryd.params6] at ht
    have hm : t ∈ [9, 5] := by simpa using Array.mem_of_getElem? ht
    have hall : ([9, 5].all fun u => !Tryd.prog.wantsStandIn u) = true := by kernel_rfl
    exact (show Tryd.prog.wantsStandIn t = false by simpa using List.all_eq_true.1 hall t hm)⟩)
  (by kernel_rfl)
#print axioms proved
end AsmLong
end Ev
end Go.Proofs.YtlbbiflodemagaaDoor
