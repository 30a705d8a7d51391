/- A region that draws its order: what is elsewhere stays, and which operations may change places. -/
import Derived.Test.YtldlnclkdgfahaaGreatEvJ
import Derived.Orders
namespace Go.Proofs.YtldlnclkdgfahaaGreat
open Go.RowKit
namespace Ev
section
variable {P : Program} {ext : FuncId → Option Ext}

/-! ### What an operation turns -/
noncomputable def Dk (r : Rec) (k : Nat) : Bool := (r.w && memN k r.t) || (Nat.ble r.n0 k && Nat.blt k r.n1)
noncomputable def Kof (e : Ent) : AH := if e.r.small then (pickK e.s.h (e.r.t ++ e.r.q)).get else e.s.h.get
noncomputable def outH (e : Ent) : AH := fun k => if Dk e.r k then e.s'.h.get k else Kof e k
theorem memN_iff {k : Nat} : ∀ {l : List Nat}, memN k l = true ↔ k ∈ l
  | [] => by simp [memN]
  | x :: l => by
    simp only [memN, Bool.or_eq_true, List.mem_cons, memN_iff (l := l)]
    constructor
    · rintro (h | h)
      · exact .inl (Nat.eq_of_beq_eq_true h)
      · exact .inr h
    · rintro (h | h)
      · exact .inl (beqT h)
      · exact .inr h
theorem allB_of {α : Type} {p : α → Bool} : ∀ {l : List α}, (∀ x ∈ l, p x = true) → allB p l = true
  | [], _ => rfl
  | x :: l, h => by simp [allB, h x (by simp), allB_of (l := l) fun y hy => h y (by simp [hy])]
theorem apartN_spec {a b : List Nat} (h : apartN a b = true) {k : Nat} (ha : k ∈ a) (hb : k ∈ b) : False := by
  have := allB_mem h k ha
  rw [memN_iff.2 hb] at this
  cases this
theorem noneIn_spec {n0 n1 : Nat} {l : List Nat} (h : noneIn n0 n1 l = true) {k : Nat} (hk : k ∈ l) (h1 : n0 ≤ k) (h2 : k < n1) : False := by
  have := allB_mem h k hk
  rw [Nat.ble_eq_true_of_le h1, show Nat.blt k n1 = true from Nat.ble_eq_true_of_le h2] at this
  cases this
theorem Dk_iff {r : Rec} {k : Nat} : Dk r k = true ↔ (r.w = true ∧ k ∈ r.t) ∨ (r.n0 ≤ k ∧ k < r.n1) := by
  unfold Dk
  simp only [Bool.or_eq_true, Bool.and_eq_true, memN_iff]
  constructor
  · rintro (h | ⟨h1, h2⟩)
    · exact .inl h
    · exact .inr ⟨Nat.le_of_ble_eq_true h1, Nat.le_of_ble_eq_true h2⟩
  · rintro (h | ⟨h1, h2⟩)
    · exact .inl h
    · exact .inr ⟨Nat.ble_eq_true_of_le h1, Nat.ble_eq_true_of_le h2⟩
/-- What is known of a record: its blocks are elder; a small one. -/
structure RecOk (r : Rec) : Prop where
  lt : ∀ k ∈ r.t, k < r.n0
  ltq : ∀ k ∈ r.q, k < r.n0
  le : r.n0 ≤ r.n1
  big : r.small = false → r.w = true
/-- What a touches, b does not turn. -/
noncomputable def Safe (a b : Rec) : Prop := (a.small = true → ∀ k ∈ a.t ++ a.q, Dk b k = false) ∧ (a.small = false → ∀ k, k < a.n0 → Dk b k = false)
theorem compat_spec {a b : Rec} (h : compat a b = true) (ha : RecOk a) (hb : RecOk b) (hab : a.n1 ≤ b.n0) : Safe a b ∧ Safe b a ∧ ∀ k, Dk a k = true → Dk b k = true → False := by
  have la := ha.le
  have lb := hb.le
  unfold compat at h
  have nd : ∀ {r : Rec} {k : Nat}, ¬ ((r.w = true ∧ k ∈ r.t) ∨ (r.n0 ≤ k ∧ k < r.n1)) → Dk r k = false := fun {r k} hn => by
    cases hd : Dk r k
    · rfl
    · exact absurd (Dk_iff.1 hd) hn
  split at h
  · rename_i h1 h2
    simp only [Bool.and_eq_true, Bool.or_eq_true] at h
    obtain ⟨⟨hw, hn⟩, ⟨hq1, hq2⟩, hnq⟩ := h
    have conf : ∀ k, k ∈ a.t → k ∈ b.t → a.w = true ∨ b.w = true → False := fun k k1 k2 k3 => by
      rcases hw with hw | hw
      · rcases k3 with k3 | k3 <;> rw [k3] at hw <;> simp at hw
      · exact apartN_spec hw k1 k2
    refine ⟨⟨fun _ k hk => nd ?_, fun e => absurd (h1.symm.trans e) (by decide)⟩, ⟨fun _ k hk => nd ?_, fun e => absurd (h2.symm.trans e) (by decide)⟩, fun k k1 k2 => ?_⟩
    · rcases List.mem_append.1 hk with hk | hk
      · rintro (⟨q1, q2⟩ | ⟨q1, q2⟩)
        · exact conf k hk q2 (.inr q1)
        · have := ha.lt k hk; omega
      · rintro (⟨q1, q2⟩ | ⟨q1, q2⟩)
        · rcases hq1 with h | h
          · rw [q1] at h; simp at h
          · exact apartN_spec h hk q2
        · have := ha.ltq k hk; omega
    · rcases List.mem_append.1 hk with hk | hk
      · rintro (⟨q1, q2⟩ | ⟨q1, q2⟩)
        · exact conf k q2 hk (.inl q1)
        · exact noneIn_spec hn hk q1 q2
      · rintro (⟨q1, q2⟩ | ⟨q1, q2⟩)
        · rcases hq2 with h | h
          · rw [q1] at h; simp at h
          · exact apartN_spec h q2 hk
        · exact noneIn_spec hnq hk q1 q2
    · rcases Dk_iff.1 k1 with ⟨q1, q2⟩ | ⟨q1, q2⟩ <;> rcases Dk_iff.1 k2 with ⟨r1, r2⟩ | ⟨r1, r2⟩
      · exact conf k q2 r2 (.inl q1)
      · have := ha.lt k q2; omega
      · exact noneIn_spec hn r2 q1 q2
      · omega
  · rename_i h1 h2
    simp only [Bool.and_eq_true, Bool.not_eq_true'] at h
    obtain ⟨⟨⟨hw, hn⟩, hap⟩, haq⟩ := h
    have hn' : a.n0 = a.n1 := Nat.eq_of_beq_eq_true hn
    have na : ∀ k, Dk a k = false := fun k => nd (by
      rintro (⟨q1, q2⟩ | ⟨q1, q2⟩)
      · rw [hw] at q1; cases q1
      · omega)
    refine ⟨⟨fun _ k hk => nd ?_, fun e => absurd (h1.symm.trans e) (by decide)⟩, ⟨fun e => absurd (h2.symm.trans e) (by decide), fun _ k _ => na k⟩, fun k k1 _ => by rw [na k] at k1; cases k1⟩
    rcases List.mem_append.1 hk with hk | hk
    · rintro (⟨q1, q2⟩ | ⟨q1, q2⟩)
      · exact apartN_spec hap hk q2
      · have := ha.lt k hk; omega
    · rintro (⟨q1, q2⟩ | ⟨q1, q2⟩)
      · exact apartN_spec haq hk q2
      · have := ha.ltq k hk; omega
  · rename_i h1 h2
    simp only [Bool.and_eq_true, Bool.not_eq_true'] at h
    obtain ⟨⟨⟨hw, hap⟩, hn⟩, haq, hnq⟩ := h
    refine ⟨⟨fun e => absurd (h1.symm.trans e) (by decide), fun _ k hk => nd ?_⟩, ⟨fun _ k hk => nd ?_, fun e => absurd (h2.symm.trans e) (by decide)⟩, fun k k1 k2 => ?_⟩
    · rintro (⟨q1, q2⟩ | ⟨q1, q2⟩)
      · rw [hw] at q1; cases q1
      · omega
    · rcases List.mem_append.1 hk with hk | hk
      · rintro (⟨q1, q2⟩ | ⟨q1, q2⟩)
        · exact apartN_spec hap q2 hk
        · exact noneIn_spec hn hk q1 q2
      · rintro (⟨q1, q2⟩ | ⟨q1, q2⟩)
        · exact apartN_spec haq q2 hk
        · exact noneIn_spec hnq hk q1 q2
    · rcases Dk_iff.1 k2 with ⟨r1, r2⟩ | ⟨r1, r2⟩
      · rw [hw] at r1; cases r1
      · rcases Dk_iff.1 k1 with ⟨q1, q2⟩ | ⟨q1, q2⟩
        · have := ha.lt k q2; omega
        · omega
  · cases h
end
end Ev
end Go.Proofs.YtldlnclkdgfahaaGreat
