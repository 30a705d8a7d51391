/- A region that draws its order: what is elsewhere stays, and which operations may change places. -/
import Derived.Test.YtiigdpfdibfkgaaGreatEvJ
import Derived.Orders
namespace Go.Proofs.YtiigdpfdibfkgaaGreat
open Go.RowKit
namespace Ev
section
variable {P : Program} {ext : FuncId → Option Ext}

/-! ### What is elsewhere stays -/
noncomputable def join (h x : AH) : AH := fun k => match h k with | some o => some o | none => x k
theorem join_some {h x : AH} {k : Nat} (hk : (h k).isSome) : join h x k = h k := by
  unfold join
  cases he : h k with
  | none => rw [he] at hk; cases hk
  | some o => rfl
theorem join_none {h x : AH} {k : Nat} (hk : h k = none) : join h x k = x k := by unfold join; rw [hk]
theorem Emb.sub {ι : Ren} {h g : AH} {w : World} (e : Emb P ι g w) (hs : ∀ k o, h k = some o → g k = some o) : Emb P ι h w := by
  have iso : ∀ k, (h k).isSome → (g k).isSome := fun k hk => by
    cases he : h k with
    | none => rw [he] at hk; cases hk
    | some o => rw [hs k o he]; rfl
  exact ⟨fun k c t hk => e.obj k c t (hs k _ hk), fun k k' b b' h1 h2 => e.inj k k' b b' (iso k h1) (iso k' h2), e.lt⟩
theorem Step.framed {ι ι' : Ren} {h h' x : AH} {w w' : World} (st : Step P ι h w ι' h' w') (e : Emb P ι (join h x) w) (hx : ∀ k, (x k).isSome → h k = none) :
    Step P ι (join h x) w ι' (join h' x) w' := by
  have hl : ∀ k, (h k).isSome → (join h x k).isSome := fun k hk => by rw [join_some hk]; exact hk
  have xl : ∀ k, (x k).isSome → (join h x k).isSome := fun k hk => by rw [join_none (hx k hk)]; exact hk
  have parts : ∀ k, (join h' x k).isSome → (h' k).isSome ∨ (h' k = none ∧ (x k).isSome) := fun k hk => by
    cases he : h' k with
    | some o => exact .inl rfl
    | none => rw [join_none he] at hk; exact .inr ⟨rfl, hk⟩
  have xι : ∀ k, (x k).isSome → ∃ b, ι k = some b ∧ ι' k = some b := fun k hk => by
    obtain ⟨b, hb⟩ := e.live (xl k hk)
    exact ⟨b, hb, st.ext k b hb⟩
  refine ⟨st.ext, ⟨fun k c t hk => ?_, fun k k' b b' h1 h2 h3 h4 h5 => ?_, st.emb.lt⟩, st.os, st.tape, st.output, st.size, fun b hb hno => st.frame b hb fun k c hk => hno k c (hl k hk), fun k b h1 h2 => ?_, fun k h1 h2 => ?_⟩
  · rcases parts k (by rw [hk]; rfl) with h1 | ⟨h1, h2⟩
    · rw [join_some h1] at hk
      exact st.emb.obj k c t hk
    · rw [join_none h1] at hk
      obtain ⟨b, C, hb, hB, hC, hQ⟩ := e.obj k c t (by rw [join_none (hx k h2)]; exact hk)
      refine ⟨b, C, st.ext k b hb, ?_, hC.ext st.ext, hQ⟩
      rw [st.frame b.1 (e.lt k b hb)]
      · exact hB
      · intro j d hj hd he
        have : j = k := e.inj j k d b (hl j hj) (xl k h2) hd hb he
        subst this
        rw [hx j h2] at hj
        cases hj
  · have mixed : ∀ {k k' : Nat} {b b' : Nat × Nat}, (h' k).isSome → (x k').isSome → ι' k = some b → ι' k' = some b' → b.1 = b'.1 → k = k' := fun {k k' b b'} h1 h2 h3 h4 h5 => by
      obtain ⟨c, hc, hc'⟩ := xι k' h2
      rw [h4] at hc'; injection hc' with hc'; subst hc'
      cases hk : ι k with
      | some d =>
        have e1 := st.ext k d hk
        rw [h3] at e1; injection e1 with e1; subst e1
        exact e.inj k k' b b' (hl k (st.alive k h1 (by rw [hk]; simp))) (xl k' h2) hk hc h5
      | none =>
        rcases st.new k b hk h3 with h6 | ⟨j, d, hj, hd, he⟩
        · have := e.lt k' b' hc
          omega
        · have : j = k' := e.inj j k' d b' (hl j hj) (xl k' h2) hd hc (he.trans h5)
          subst this
          rw [hx j h2] at hj
          cases hj
    rcases parts k h1 with q1 | ⟨_, q1⟩ <;> rcases parts k' h2 with q2 | ⟨_, q2⟩
    · exact st.emb.inj k k' b b' q1 q2 h3 h4 h5
    · exact mixed q1 q2 h3 h4 h5
    · exact (mixed q2 q1 h4 h3 h5.symm).symm
    · obtain ⟨c, hc, hc'⟩ := xι k q1
      obtain ⟨d, hd, hd'⟩ := xι k' q2
      rw [h3] at hc'; injection hc' with hc'; subst hc'
      rw [h4] at hd'; injection hd' with hd'; subst hd'
      exact e.inj k k' b b' (xl k q1) (xl k' q2) hc hd h5
  · rcases st.new k b h1 h2 with h3 | ⟨j, c, hj, hc⟩
    · exact .inl h3
    · exact .inr ⟨j, c, hl j hj, hc⟩
  · rcases parts k h1 with q1 | ⟨_, q1⟩
    · exact hl k (st.alive k q1 h2)
    · exact xl k q1

/-! ### What an operation turns -/
noncomputable def Dk (r : Rec) (k : Nat) : Bool := (r.w && memN k r.t) || (Nat.ble r.n0 k && Nat.blt k r.n1)
noncomputable def Kof (e : Ent) : AH := if e.r.small then (pickK e.s.h e.r.t).get else e.s.h.get
noncomputable def outH (e : Ent) : AH := fun k => if Dk e.r k then e.s'.h.get k else Kof e k
theorem memN_iff {k : Nat} : ∀ {l : List Nat}, memN k l = true ↔ k ∈ l
  | [] => by simp [memN]
  | x :: l => by
    simp only [memN, Bool.or_eq_true, List.mem_cons, memN_iff (l := l)]
    constructor
    · rintro (h | h)
      · exact .inl (Nat.eq_of_beq_eq_true h)
      · exact .inr h
    · rintro (h | h)
      · exact .inl (beqT h)
      · exact .inr h
theorem allB_of {α : Type} {p : α → Bool} : ∀ {l : List α}, (∀ x ∈ l, p x = true) → allB p l = true
  | [], _ => rfl
  | x :: l, h => by simp [allB, h x (by simp), allB_of (l := l) fun y hy => h y (by simp [hy])]
theorem apartN_spec {a b : List Nat} (h : apartN a b = true) {k : Nat} (ha : k ∈ a) (hb : k ∈ b) : False := by
  have := allB_mem h k ha
  rw [memN_iff.2 hb] at this
  cases this
theorem noneIn_spec {n0 n1 : Nat} {l : List Nat} (h : noneIn n0 n1 l = true) {k : Nat} (hk : k ∈ l) (h1 : n0 ≤ k) (h2 : k < n1) : False := by
  have := allB_mem h k hk
  rw [Nat.ble_eq_true_of_le h1, show Nat.blt k n1 = true from Nat.ble_eq_true_of_le h2] at this
  cases this
theorem Dk_iff {r : Rec} {k : Nat} : Dk r k = true ↔ (r.w = true ∧ k ∈ r.t) ∨ (r.n0 ≤ k ∧ k < r.n1) := by
  unfold Dk
  simp only [Bool.or_eq_true, Bool.and_eq_true, memN_iff]
  constructor
  · rintro (h | ⟨h1, h2⟩)
    · exact .inl h
    · exact .inr ⟨Nat.le_of_ble_eq_true h1, Nat.le_of_ble_eq_true h2⟩
  · rintro (h | ⟨h1, h2⟩)
    · exact .inl h
    · exact .inr ⟨Nat.ble_eq_true_of_le h1, Nat.ble_eq_true_of_le h2⟩
/-- What is known of a record: its blocks are elder; a small one. -/
structure RecOk (r : Rec) : Prop where
  lt : ∀ k ∈ r.t, k < r.n0
  le : r.n0 ≤ r.n1
  big : r.small = false → r.w = true
/-- What a touches, b does not turn. -/
noncomputable def Safe (a b : Rec) : Prop := (a.small = true → ∀ k ∈ a.t, Dk b k = false) ∧ (a.small = false → ∀ k, k < a.n0 → Dk b k = false)
theorem compat_spec {a b : Rec} (h : compat a b = true) (ha : RecOk a) (hb : RecOk b) (hab : a.n1 ≤ b.n0) : Safe a b ∧ Safe b a ∧ ∀ k, Dk a k = true → Dk b k = true → False := by
  have la := ha.le
  have lb := hb.le
  unfold compat at h
  have nd : ∀ {r : Rec} {k : Nat}, ¬ ((r.w = true ∧ k ∈ r.t) ∨ (r.n0 ≤ k ∧ k < r.n1)) → Dk r k = false := fun {r k} hn => by
    cases hd : Dk r k
    · rfl
    · exact absurd (Dk_iff.1 hd) hn
  split at h
  · rename_i h1 h2
    simp only [Bool.and_eq_true, Bool.or_eq_true] at h
    obtain ⟨hw, hn⟩ := h
    have conf : ∀ k, k ∈ a.t → k ∈ b.t → a.w = true ∨ b.w = true → False := fun k k1 k2 k3 => by
      rcases hw with hw | hw
      · rcases k3 with k3 | k3 <;> rw [k3] at hw <;> simp at hw
      · exact apartN_spec hw k1 k2
    refine ⟨⟨fun _ k hk => nd ?_, fun e => absurd (h1.symm.trans e) (by decide)⟩, ⟨fun _ k hk => nd ?_, fun e => absurd (h2.symm.trans e) (by decide)⟩, fun k k1 k2 => ?_⟩
    · rintro (⟨q1, q2⟩ | ⟨q1, q2⟩)
      · exact conf k hk q2 (.inr q1)
      · have := ha.lt k hk; omega
    · rintro (⟨q1, q2⟩ | ⟨q1, q2⟩)
      · exact conf k q2 hk (.inl q1)
      · exact noneIn_spec hn hk q1 q2
    · rcases Dk_iff.1 k1 with ⟨q1, q2⟩ | ⟨q1, q2⟩ <;> rcases Dk_iff.1 k2 with ⟨r1, r2⟩ | ⟨r1, r2⟩
      · exact conf k q2 r2 (.inl q1)
      · have := ha.lt k q2; omega
      · exact noneIn_spec hn r2 q1 q2
      · omega
  · rename_i h1 h2
    simp only [Bool.and_eq_true, Bool.not_eq_true'] at h
    obtain ⟨⟨hw, hn⟩, hap⟩ := h
    have hn' : a.n0 = a.n1 := Nat.eq_of_beq_eq_true hn
    have na : ∀ k, Dk a k = false := fun k => nd (by
      rintro (⟨q1, q2⟩ | ⟨q1, q2⟩)
      · rw [hw] at q1; cases q1
      · omega)
    refine ⟨⟨fun _ k hk => nd ?_, fun e => absurd (h1.symm.trans e) (by decide)⟩, ⟨fun e => absurd (h2.symm.trans e) (by decide), fun _ k _ => na k⟩, fun k k1 _ => by rw [na k] at k1; cases k1⟩
    rintro (⟨q1, q2⟩ | ⟨q1, q2⟩)
    · exact apartN_spec hap hk q2
    · have := ha.lt k hk; omega
  · rename_i h1 h2
    simp only [Bool.and_eq_true, Bool.not_eq_true'] at h
    obtain ⟨⟨hw, hap⟩, hn⟩ := h
    refine ⟨⟨fun e => absurd (h1.symm.trans e) (by decide), fun _ k hk => nd ?_⟩, ⟨fun _ k hk => nd ?_, fun e => absurd (h2.symm.trans e) (by decide)⟩, fun k k1 k2 => ?_⟩
    · rintro (⟨q1, q2⟩ | ⟨q1, q2⟩)
      · rw [hw] at q1; cases q1
      · omega
    · rintro (⟨q1, q2⟩ | ⟨q1, q2⟩)
      · exact apartN_spec hap q2 hk
      · exact noneIn_spec hn hk q1 q2
    · rcases Dk_iff.1 k2 with ⟨r1, r2⟩ | ⟨r1, r2⟩
      · rw [hw] at r1; cases r1
      · rcases Dk_iff.1 k1 with ⟨q1, q2⟩ | ⟨q1, q2⟩
        · have := ha.lt k q2; omega
        · omega
  · cases h
end
end Ev
end Go.Proofs.YtiigdpfdibfkgaaGreat
