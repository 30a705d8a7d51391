/- The runner's store and a world: which block stands for which, and what a step may turn. -/
import Derived.Test.YtldlnclkdgfahaaGreatEv
import Derived.Laws.CopyRow
import Derived.Laws.Rows
namespace Go.Proofs.YtldlnclkdgfahaaGreat
open Go.RowKit
namespace Ev

theorem beqF {a b : Nat} (h : a ≠ b) : Nat.beq a b = false := by
  cases hb : Nat.beq a b
  · rfl
  · exact absurd (Nat.eq_of_beq_eq_true hb) h
theorem beqT {a b : Nat} (h : a = b) : Nat.beq a b = true := by subst h; exact Nat.beq_refl a
theorem Tr.get_setF {α : Type} (v : Option α) : ∀ (f : Nat) (t : Tr α) (n m : Nat), n ≤ f → (Tr.setF f t n v).get m = if m = n then v else t.get m := by
  have hnode : ∀ (t : Tr α) (m : Nat), m ≠ 0 → t.get m = bif Nat.beq (m % 2) 1 then t.lt.get ((m - 1) / 2) else t.rt.get ((m - 1) / 2) := by
    intro t m hm
    cases t with
    | nil => simp [Tr.get_nil, Tr.lt_nil, Tr.rt_nil]
    | node u l r =>
      have : Nat.beq m 0 = false := beqF hm
      simp [Tr.get_node, Tr.lt_node, Tr.rt_node, this]
  have hval : ∀ (t : Tr α), t.get 0 = t.val := by
    intro t
    cases t <;> simp [Tr.get_nil, Tr.get_node, Tr.val_nil, Tr.val_node, Nat.beq]
  intro f
  induction f with
  | zero =>
    intro t n m hn
    obtain rfl : n = 0 := by omega
    rw [Tr.setF_zero]
    by_cases hm : m = 0
    · subst hm; simp [Tr.get_node, Nat.beq]
    · rw [if_neg hm, hnode _ m hm, hnode t m hm]
      simp [Tr.lt_node, Tr.rt_node]
  | succ f ih =>
    intro t n m hn
    rw [Tr.setF_succ]
    by_cases h0 : n = 0
    · subst h0
      by_cases hm : m = 0
      · subst hm; simp [Tr.get_node, Nat.beq]
      · rw [if_neg hm, hnode t m hm]
        simp only [Nat.beq, cond_true]
        rw [hnode _ m hm]
        simp [Tr.lt_node, Tr.rt_node]
    · have hb : Nat.beq n 0 = false := beqF h0
      simp only [hb, cond_false]
      have hle : (n - 1) / 2 ≤ f := by omega
      by_cases ho : n % 2 = 1
      · have hb1 : Nat.beq (n % 2) 1 = true := beqT ho
        simp only [hb1, cond_true]
        by_cases hm : m = 0
        · subst hm
          rw [if_neg (fun e => h0 e.symm), hval, hval]
          simp [Tr.val_node]
        · rw [hnode _ m hm, hnode t m hm]
          by_cases hmo : m % 2 = 1
          · have hb2 : Nat.beq (m % 2) 1 = true := beqT hmo
            simp only [hb2, cond_true, Tr.lt_node]
            rw [ih _ _ _ hle]
            by_cases he : m = n
            · subst he; simp
            · rw [if_neg he, if_neg (by omega)]
          · have hb2 : Nat.beq (m % 2) 1 = false := beqF hmo
            simp only [hb2, cond_false, Tr.rt_node]
            rw [if_neg (by intro e; subst e; exact hmo ho)]
      · have hb1 : Nat.beq (n % 2) 1 = false := beqF ho
        simp only [hb1, cond_false]
        by_cases hm : m = 0
        · subst hm
          rw [if_neg (fun e => h0 e.symm), hval, hval]
          simp [Tr.val_node]
        · rw [hnode _ m hm, hnode t m hm]
          by_cases hmo : m % 2 = 1
          · have hb2 : Nat.beq (m % 2) 1 = true := beqT hmo
            simp only [hb2, cond_true, Tr.lt_node]
            rw [if_neg (by intro e; subst e; exact ho hmo)]
          · have hb2 : Nat.beq (m % 2) 1 = false := beqF hmo
            simp only [hb2, cond_false, Tr.rt_node]
            rw [ih _ _ _ hle]
            by_cases he : m = n
            · subst he; simp
            · rw [if_neg he, if_neg (by omega)]

/-- One place turned. -/
def upd {β : Type} (h : Nat → Option β) (n : Nat) (v : Option β) : Nat → Option β := fun m => if m = n then v else h m
theorem Tr.get_set {α : Type} (t : Tr α) (n : Nat) (v : Option α) : (t.set n v).get = upd t.get n v :=
  funext fun m => Tr.get_setF v n t n m (Nat.le_refl _)
theorem upd_same {β : Type} {h : Nat → Option β} {n : Nat} {v : Option β} : upd h n v n = v := by simp [upd]
theorem upd_other {β : Type} {h : Nat → Option β} {n m : Nat} {v : Option β} (hm : m ≠ n) : upd h n v m = h m := by simp [upd, hm]

/-- A block and how many elements it has room for. -/
abbrev Ren := Nat → Option (Nat × Nat)
inductive VR (ι : Ren) : Value → Value → Prop
  | atom {v} (h : atom v = true) : VR ι v v
  | glob {g v'} (h : v'.oneCell' = true) : VR ι (.chan (some g)) v'
  | ptr {k b o} (h : ι k = some b) : VR ι (.pointer (some ⟨k, o, none⟩)) (.pointer (some ⟨b.1, o, none⟩))
  | map {k b} (h : ι k = some b) : VR ι (.map (some k)) (.map (some b.1))
  | slice {k b o n c c'} (h : ι k = some b) (hn : n ≤ c) (hc : c ≤ c') (hq : o = 0 → c' ≤ c ∨ c' ≤ b.2) : VR ι (.slice (some ⟨k, o, none⟩) n c) (.slice (some ⟨b.1, o, none⟩) n c')
  | slice0 {k o} {a' : Option Addr} (h : a'.isNone = true → nilToo = true) : VR ι (.slice (some ⟨k, o, none⟩) 0 0) (.slice a' 0 0)
  | func {fn} {a a' b b' : Array Value} (hs : a.size = a'.size) (ht : b.size = b'.size) (h : ∀ (i : Nat) x y, a[i]? = some x → a'[i]? = some y → VR ι x y) (h2 : ∀ (i : Nat) x y, b[i]? = some x → b'[i]? = some y → VR ι x y) :
      VR ι (.func fn a b) (.func fn a' b')
  | agg {a a' : Array Value} (hs : a.size = a'.size) (h : ∀ (i : Nat) x y, a[i]? = some x → a'[i]? = some y → VR ι x y) : VR ι (.agg a) (.agg a')
  | tuple {a a' : Array Value} (hs : a.size = a'.size) (h : ∀ (i : Nat) x y, a[i]? = some x → a'[i]? = some y → VR ι x y) : VR ι (.tuple a) (.tuple a')

/-- Rows of values. -/
def VRs (ι : Ren) (a a' : Array Value) : Prop := a.size = a'.size ∧ ∀ (i : Nat) x y, a[i]? = some x → a'[i]? = some y → VR ι x y

theorem VR.ext {ι ι' : Ren} (hi : ∀ k b, ι k = some b → ι' k = some b) {v v' : Value} (h : VR ι v v') : VR ι' v v' := by
  induction h with
  | atom h => exact .atom h
  | glob h => exact .glob h
  | ptr h => exact .ptr (hi _ _ h)
  | map h => exact .map (hi _ _ h)
  | slice h hn hc hq => exact .slice (hi _ _ h) hn hc hq
  | slice0 h => exact .slice0 h
  | func hs ht _ _ ih1 ih2 => exact .func hs ht ih1 ih2
  | agg hs _ ih => exact .agg hs ih
  | tuple hs _ ih => exact .tuple hs ih
theorem VRs.ext {ι ι' : Ren} (hi : ∀ k b, ι k = some b → ι' k = some b) {v v' : Array Value} (h : VRs ι v v') : VRs ι' v v' := ⟨h.1, fun i x y hx hy => (h.2 i x y hx hy).ext hi⟩

theorem allB_mem {α : Type} {p : α → Bool} : ∀ {l : List α}, allB p l = true → ∀ x ∈ l, p x = true
  | [], _, x, hx => by cases hx
  | y :: l, h, x, hx => by
    simp only [allB, Bool.and_eq_true] at h
    rcases List.mem_cons.1 hx with rfl | hx
    · exact h.1
    · exact allB_mem h.2 x hx
theorem allB_get {α : Type} {p : α → Bool} {a : Array α} (h : allB p a.toList = true) (i : Nat) (x : α) (hx : a[i]? = some x) : p x = true :=
  allB_mem h x (by
    obtain ⟨hi, rfl⟩ := Array.getElem?_eq_some_iff.1 hx
    simp)
theorem VR.eq_of_atom {ι : Ren} {v v' : Value} (ha : Ev.atom v = true) (h : VR ι v v') : v' = v := by
  cases h with
  | atom => rfl
  | glob => simp [Ev.atom] at ha
  | ptr h => simp [Ev.atom] at ha
  | map h => simp [Ev.atom] at ha
  | slice h => simp [Ev.atom] at ha
  | slice0 => simp [Ev.atom] at ha
  | func hs ht h h2 =>
    rename_i fn a a' b b'
    cases fn <;> simp [Ev.atom] at ha
    obtain ⟨rfl, rfl⟩ := ha
    have e1 : a' = #[] := Array.eq_empty_of_size_eq_zero (by simpa using hs.symm)
    have e2 : b' = #[] := Array.eq_empty_of_size_eq_zero (by simpa using ht.symm)
    rw [e1, e2]
  | agg => simp [Ev.atom] at ha
  | tuple => simp [Ev.atom] at ha
theorem eq_of_pw {a a' : Array Value} (hs : a.size = a'.size) (h : ∀ (i : Nat) x y, a[i]? = some x → a'[i]? = some y → y = x) : a' = a := by
  apply Array.ext hs.symm
  intro i h1 h2
  exact h i _ _ (Array.getElem?_eq_getElem h2) (Array.getElem?_eq_getElem h1)
theorem VR.eq_of_free1 {ι : Ren} {v v' : Value} (ha : free1 v = true) (h : VR ι v v') : v' = v := by
  cases v with
  | agg cs =>
    cases h with
    | atom h => rfl
    | agg hs h => rw [eq_of_pw hs fun i x y hx hy => (h i x y hx hy).eq_of_atom (allB_get ha i x hx)]
  | _ => exact h.eq_of_atom ha
theorem VR.eq_of_free {ι : Ren} {v v' : Value} (ha : free v = true) (h : VR ι v v') : v' = v := by
  cases v with
  | tuple cs =>
    cases h with
    | atom h => rfl
    | tuple hs h => rw [eq_of_pw hs fun i x y hx hy => (h i x y hx hy).eq_of_free1 (allB_get ha i x hx)]
  | _ => exact h.eq_of_free1 ha
theorem VR.of_free1 {ι : Ren} {v : Value} (ha : free1 v = true) : VR ι v v := by
  cases v with
  | agg cs => exact .agg rfl fun i x y hx hy => by rw [hx] at hy; injection hy with hy; subst hy; exact .atom (allB_get ha i x hx)
  | _ => exact .atom ha
theorem VR.of_free {ι : Ren} {v : Value} (ha : free v = true) : VR ι v v := by
  cases v with
  | tuple cs => exact .tuple rfl fun i x y hx hy => by rw [hx] at hy; injection hy with hy; subst hy; exact VR.of_free1 (allB_get ha i x hx)
  | _ => exact VR.of_free1 ha

/-- A row of cells of which the first ones are known. -/
def CR (ι : Ren) (c : List Value) (C : Array Value) : Prop := c.length ≤ C.size ∧ ∀ (i : Nat) x y, c[i]? = some x → C[i]? = some y → VR ι x y
theorem CR.ext {ι ι' : Ren} (hi : ∀ k b, ι k = some b → ι' k = some b) {c : List Value} {C : Array Value} (h : CR ι c C) : CR ι' c C := ⟨h.1, fun i x y hx hy => (h.2 i x y hx hy).ext hi⟩

/-- The same map, whenever its entries were made. -/
def kvs (es : List MapEntry) : List (Value × Value) := es.map fun e => (e.key, e.val)
/-- A block as it is known: exactly; or a map with these entries. -/
def RoAt (m : Bool) (O : Obj) (x : Option Obj) : Prop :=
  match m with
  | false => x = some O
  | true => ∃ es c es' c', O = .map es c ∧ x = some (.map es' c') ∧ kvs es.toList = kvs es'.toList
theorem RoAt.on {m : Bool} {O : Obj} {x y : Option Obj} (e : x = y) (h : RoAt m O y) : RoAt m O x := e ▸ h
abbrev AH := Nat → Option AObj
section
variable {P : Program}
structure Emb (P : Program) (ι : Ren) (h : AH) (w : World) : Prop where
  obj : ∀ k c t, h k = some (.cells c t) → ∃ b C, ι k = some b ∧ w.heap[b.1]? = some (.cells C t (0, 0)) ∧ CR ι c C ∧ ∀ i, P.info? t = some i → b.2 * i.size ≤ C.size
  ro : ∀ {m} k O, h k = some (.ro O m) → ∃ b, ι k = some b ∧ RoAt m O w.heap[b.1]?
  inj : ∀ k k' b b', isC (h k) = true → (h k').isSome → ι k = some b → ι k' = some b' → b.1 = b'.1 → k = k'
  lt : ∀ k b, ι k = some b → b.1 < w.heap.size
/-- From w to w', and from h to h'. -/
structure Step (P : Program) (ι : Ren) (h : AH) (w : World) (ι' : Ren) (h' : AH) (w' : World) : Prop where
  ext : ∀ k b, ι k = some b → ι' k = some b
  emb : Emb P ι' h' w'
  os : w'.os = w.os
  tape : w'.tape = w.tape
  output : w'.output = w.output
  size : w.heap.size ≤ w'.heap.size
  frame : ∀ b, b < w.heap.size → (∀ k c, isC (h k) = true → ι k = some c → c.1 ≠ b) → w'.heap[b]? = w.heap[b]?
  new : ∀ k b, ι k = none → ι' k = some b → w.heap.size ≤ b.1 ∨ ∃ j c, isC (h j) = true ∧ ι j = some c ∧ c.1 = b.1
  alive : ∀ k, (h' k).isSome → ι k ≠ none → (h k).isSome
  kind : ∀ k, isC (h' k) = true → ι k ≠ none → isC (h k) = true
theorem Emb.ro0 {ι : Ren} {h : AH} {w : World} (e : Emb P ι h w) {k : Nat} {O : Obj} (hk : h k = some (.ro O)) : ∃ b, ι k = some b ∧ w.heap[b.1]? = some O := e.ro k O hk
theorem isC_some {o : Option AObj} (h : isC o = true) : o.isSome := by
  cases o with
  | none => cases h
  | some o => rfl
/-- Numbers from here on stand for what is known no more. -/
def far : Nat := 1000000000
/-- Numbers from n to n' are new. -/
def Fresh (ι : Ren) (n n' : Nat) : Prop := n' ≤ far ∧ ∀ k, n ≤ k → k < n' → ι k = none
def Dom (ι ι' : Ren) (n n' : Nat) : Prop := ∀ k, ι' k ≠ none → ι k ≠ none ∨ (n ≤ k ∧ k < n') ∨ far ≤ k

theorem Emb.live {ι : Ren} {h : AH} {w : World} (e : Emb P ι h w) {k : Nat} (hk : (h k).isSome) : ∃ b, ι k = some b := by
  cases ho : h k with
  | none => rw [ho] at hk; cases hk
  | some o =>
    cases o with
    | cells c t => obtain ⟨b, C, hb, _⟩ := e.obj k c t ho; exact ⟨b, hb⟩
    | ro O => obtain ⟨b, hb, _⟩ := e.ro k O ho; exact ⟨b, hb⟩
theorem Step.refl {ι : Ren} {h : AH} {w : World} (e : Emb P ι h w) : Step P ι h w ι h w :=
  ⟨fun _ _ h => h, e, rfl, rfl, rfl, Nat.le_refl _, fun _ _ _ => rfl, fun k b h1 h2 => (by rw [h1] at h2; cases h2), fun _ h1 _ => h1, fun _ h1 _ => h1⟩
theorem Step.trans {ι ι1 ι2 : Ren} {h h1 h2 : AH} {w w1 w2 : World} (a : Step P ι h w ι1 h1 w1) (b : Step P ι1 h1 w1 ι2 h2 w2) : Step P ι h w ι2 h2 w2 where
  ext k c hk := b.ext k c (a.ext k c hk)
  emb := b.emb
  os := b.os.trans a.os
  tape := b.tape.trans a.tape
  output := b.output.trans a.output
  size := Nat.le_trans a.size b.size
  frame c hc hno := by
    rw [b.frame c (Nat.lt_of_lt_of_le hc a.size) ?_, a.frame c hc hno]
    intro k d hk he
    cases hi : ι k with
    | some c' =>
      have e1 := a.ext k c' hi
      rw [e1] at he
      injection he with he
      subst he
      exact hno k _ (a.kind k hk (by rw [hi]; simp)) hi
    | none =>
      rcases a.new k d hi he with h' | ⟨j, c', hj, hj2, hj3⟩
      · omega
      · rw [← hj3]; exact hno j c' hj hj2
  new k c hk hc := by
    cases hi : ι1 k with
    | some c' =>
      have e1 := b.ext k c' hi
      rw [e1] at hc
      injection hc with hc
      subst hc
      exact a.new k c' hk hi
    | none =>
      rcases b.new k c hi hc with h' | ⟨j, d, hj, hj2, hj3⟩
      · exact .inl (Nat.le_trans a.size h')
      · rw [← hj3]
        cases hij : ι j with
        | some c' =>
          have e1 := a.ext j c' hij
          rw [e1] at hj2
          injection hj2 with hj2
          subst hj2
          exact .inr ⟨j, _, a.kind j hj (by rw [hij]; simp), hij, rfl⟩
        | none => exact a.new j d hij hj2
  alive k hk hn := a.alive k (b.alive k hk (by
    cases hi : ι k with
    | none => exact absurd hi hn
    | some c => rw [a.ext k c hi]; simp)) hn
  kind k hk hn := a.kind k (b.kind k hk (by
    cases hi : ι k with
    | none => exact absurd hi hn
    | some c => rw [a.ext k c hi]; simp)) hn
theorem Fresh.mono {ι : Ren} {n n' m m' : Nat} (h : Fresh ι n n') (h1 : n ≤ m) (h2 : m' ≤ n') : Fresh ι m m' := ⟨Nat.le_trans h2 h.1, fun k a b => h.2 k (Nat.le_trans h1 a) (Nat.lt_of_lt_of_le b h2)⟩
theorem Dom.refl {ι : Ren} {n n' : Nat} : Dom ι ι n n' := fun _ h => .inl h
theorem Dom.trans {ι ι1 ι2 : Ren} {n n1 n2 : Nat} (a : Dom ι ι1 n n1) (b : Dom ι1 ι2 n1 n2) (h1 : n ≤ n1) (h2 : n1 ≤ n2) : Dom ι ι2 n n2 := fun k hk => by
  rcases b k hk with h | ⟨h3, h4⟩ | h5
  · rcases a k h with h | ⟨h3, h4⟩ | h5
    · exact .inl h
    · exact .inr (.inl ⟨h3, by omega⟩)
    · exact .inr (.inr h5)
  · exact .inr (.inl ⟨by omega, h4⟩)
  · exact .inr (.inr h5)
theorem Fresh.after {ι ι1 : Ren} {n n1 n2 : Nat} (h : Fresh ι n n2) (a : Dom ι ι1 n n1) (h1 : n ≤ n1) : Fresh ι1 n1 n2 := ⟨h.1, fun k hk hk2 => by
  cases hi : ι1 k with
  | none => rfl
  | some c =>
    rcases a k (by rw [hi]; simp) with h' | ⟨_, h4⟩ | h5
    · exact absurd (h.2 k (by omega) hk2) h'
    · omega
    · have := h.1; omega⟩

/-- A draw, and whatever else turns no block. -/
theorem Step.still {ι : Ren} {h : AH} {w w' : World} (e : Emb P ι h w) (hh : w'.heap = w.heap) (ho : w'.os = w.os) (ht : w'.tape = w.tape) (hp : w'.output = w.output) : Step P ι h w ι h w' :=
  ⟨fun _ _ h => h, ⟨fun k c t hk => by rw [hh]; exact e.obj k c t hk, fun k O hk => by rw [hh]; exact e.ro k O hk, e.inj, fun k b hk => by rw [hh]; exact e.lt k b hk⟩, ho, ht, hp, by rw [hh]; exact Nat.le_refl _, fun _ _ _ => by rw [hh], fun k b h1 h2 => (by rw [h1] at h2; cases h2), fun _ h1 _ => h1, fun _ h1 _ => h1⟩
theorem upd_live {h : AH} {k0 k : Nat} (h1 : (upd h k0 none k).isSome) : k ≠ k0 ∧ (h k).isSome := by
  by_cases hk0 : k = k0
  · subst hk0; rw [upd_same] at h1; cases h1
  · exact ⟨hk0, by rwa [upd_other hk0] at h1⟩
theorem upd_liveC {h : AH} {k0 k : Nat} (h1 : isC (upd h k0 none k) = true) : k ≠ k0 ∧ isC (h k) = true := by
  by_cases hk0 : k = k0
  · subst hk0; rw [upd_same] at h1; cases h1
  · exact ⟨hk0, by rwa [upd_other hk0] at h1⟩
/-- A block that is known no more. -/
theorem Step.kill {ι : Ren} {h : AH} {w : World} (e : Emb P ι h w) (k0 : Nat) : Step P ι h w ι (upd h k0 none) w :=
  ⟨fun _ _ h => h, ⟨fun k c t hk => by
      have hk0 := (upd_live (h := h) (k0 := k0) (k := k) (by rw [hk]; rfl)).1
      rw [upd_other hk0] at hk
      exact e.obj k c t hk,
    fun k O hk => by
      have hk0 := (upd_live (h := h) (k0 := k0) (k := k) (by rw [hk]; rfl)).1
      rw [upd_other hk0] at hk
      exact e.ro k O hk,
    fun k k' b b' h1 h2 => e.inj k k' b b' (upd_liveC h1).2 (upd_live h2).2, e.lt⟩,
    rfl, rfl, rfl, Nat.le_refl _, fun _ _ _ => rfl, fun k b h1 h2 => (by rw [h1] at h2; cases h2), fun k h1 _ => (upd_live h1).2, fun k h1 _ => (upd_liveC h1).2⟩
/-- A new block. -/
theorem Step.alloc {ι : Ren} {h : AH} {w : World} (e : Emb P ι h w) {n : Nat} (hn : ι n = none) {c : List Value} {C : Array Value} (t : TypeId) (hc : CR ι c C) (q : Nat) (hq : ∀ i, P.info? t = some i → q * i.size ≤ C.size) :
    Step P ι h w (upd ι n (some (w.heap.size, q))) (upd h n (some (.cells c t))) (w.alloc (.cells C t)) := by
  have hx : ∀ k b, ι k = some b → upd ι n (some (w.heap.size, q)) k = some b := fun k b hk => by
    rw [upd_other]; · exact hk
    · intro e; subst e; rw [hn] at hk; cases hk
  have hnew : (w.alloc (.cells C t)).heap[w.heap.size]? = some (.cells C t (0, 0)) := heap_alloc_new w _
  refine ⟨hx, ⟨fun k c' t' hk => ?_, fun k O hk => ?_, fun k k' b b' h1 h2 h3 h4 h5 => ?_, fun k b hk => ?_⟩, rfl, rfl, rfl, by simp, fun b hb _ => Below.heap_alloc w _ b hb, fun k b h1 h2 => ?_, fun k h1 h2 => ?_, fun k h1 h2 => ?_⟩
  · by_cases hk0 : k = n
    · subst hk0
      rw [upd_same] at hk
      injection hk with hk
      injection hk with h1 h2
      subst h1 h2
      exact ⟨_, C, upd_same, hnew, hc.ext hx, hq⟩
    · rw [upd_other hk0] at hk
      obtain ⟨b, C', hb, hB, hC, hQ⟩ := e.obj k c' t' hk
      exact ⟨b, C', hx k b hb, (Below.heap_alloc w _ b.1 (e.lt k b hb)).trans hB, hC.ext hx, hQ⟩
  · by_cases hk0 : k = n
    · subst hk0; rw [upd_same] at hk; injection hk with hk; cases hk
    · rw [upd_other hk0] at hk
      obtain ⟨b, hb, hB⟩ := e.ro k O hk
      exact ⟨b, hx k b hb, hB.on (Below.heap_alloc w _ b.1 (e.lt k b hb))⟩
  · by_cases hk0 : k = n <;> by_cases hk1 : k' = n
    · rw [hk0, hk1]
    · subst hk0
      rw [upd_same] at h3; injection h3 with h3; subst h3
      rw [upd_other hk1] at h4
      have := e.lt k' _ h4
      simp only at h5
      omega
    · subst hk1
      rw [upd_same] at h4; injection h4 with h4; subst h4
      rw [upd_other hk0] at h3
      have := e.lt k _ h3
      simp only at h5
      omega
    · rw [upd_other hk0] at h1 h3
      rw [upd_other hk1] at h2 h4
      exact e.inj k k' b b' h1 h2 h3 h4 h5
  · by_cases hk0 : k = n
    · subst hk0; rw [upd_same] at hk; injection hk with hk; subst hk; simp
    · rw [upd_other hk0] at hk
      have := e.lt k b hk
      simp; omega
  · by_cases hk0 : k = n
    · subst hk0; rw [upd_same] at h2; injection h2 with h2; subst h2; exact .inl (Nat.le_refl _)
    · rw [upd_other hk0, h1] at h2; cases h2
  · by_cases hk0 : k = n
    · subst hk0; exact absurd hn h2
    · rwa [upd_other hk0] at h1
  · by_cases hk0 : k = n
    · subst hk0; exact absurd hn h2
    · rwa [upd_other hk0] at h1
/-- A block that is written. -/
theorem Step.store {ι : Ren} {h : AH} {w w' : World} (e : Emb P ι h w) {k0 : Nat} {b : Nat × Nat} {c c' : List Value} {C C' : Array Value} {t : TypeId} (hk : h k0 = some (.cells c t)) (hb : ι k0 = some b) (hc : CR ι c' C')
    (hCs : C'.size = C.size) (hB0 : w.heap[b.1]? = some (.cells C t (0, 0)))
    (hB : w'.heap[b.1]? = some (.cells C' t (0, 0))) (hO : ∀ i, i ≠ b.1 → w'.heap[i]? = w.heap[i]?) (hs : w'.heap.size = w.heap.size) (ho : w'.os = w.os) (ht : w'.tape = w.tape) (hp : w'.output = w.output) :
    Step P ι h w ι (upd h k0 (some (.cells c' t))) w' := by
  have hlive : (h k0).isSome := by rw [hk]; rfl
  have hlC : isC (h k0) = true := by rw [hk]; rfl
  have iso : ∀ k, (upd h k0 (some (.cells c' t)) k).isSome → (h k).isSome := fun k hk1 => by
    by_cases hk0 : k = k0
    · subst hk0; exact hlive
    · rwa [upd_other hk0] at hk1
  have isoC : ∀ k, isC (upd h k0 (some (.cells c' t)) k) = true → isC (h k) = true := fun k hk1 => by
    by_cases hk0 : k = k0
    · subst hk0; exact hlC
    · rwa [upd_other hk0] at hk1
  refine ⟨fun _ _ h => h, ⟨fun k c1 t1 hk1 => ?_, fun k O hk1 => ?_, fun k k' b b' h1 h2 => e.inj k k' b b' (isoC k h1) (iso k' h2), fun k b hk => by rw [hs]; exact e.lt k b hk⟩, ho, ht, hp, by rw [hs]; exact Nat.le_refl _, fun i _ hno => hO i fun e1 => hno k0 b hlC hb e1.symm, fun k b h1 h2 => (by rw [h1] at h2; cases h2), fun k h1 _ => iso k h1, fun k h1 _ => isoC k h1⟩
  · by_cases hk0 : k = k0
    · subst hk0
      rw [upd_same] at hk1
      injection hk1 with hk1
      injection hk1 with h1 h2
      subst h1 h2
      obtain ⟨b1, C1, hb1, hB1, _, hQ⟩ := e.obj k c t hk
      rw [hb] at hb1; injection hb1 with hb1; subst hb1
      rw [hB0] at hB1; injection hB1 with hB1; injection hB1 with hB1; subst hB1
      exact ⟨b, C', hb, hB, hc, fun i hi => by rw [hCs]; exact hQ i hi⟩
    · rw [upd_other hk0] at hk1
      obtain ⟨b1, C1, hb1, hB1, hC1, hQ⟩ := e.obj k c1 t1 hk1
      refine ⟨b1, C1, hb1, (hO b1.1 fun e1 => hk0 (e.inj k k0 b1 b (by rw [hk1]; rfl) hlive hb1 hb e1)).trans hB1, hC1, hQ⟩
  · by_cases hk0 : k = k0
    · subst hk0; rw [upd_same] at hk1; injection hk1 with hk1; cases hk1
    · rw [upd_other hk0] at hk1
      obtain ⟨b1, hb1, hB1⟩ := e.ro k O hk1
      exact ⟨b1, hb1, hB1.on (hO b1.1 fun e1 => hk0 (e.inj k0 k b b1 hlC (by rw [hk1]; rfl) hb hb1 e1.symm).symm)⟩
/-- A new map. -/
theorem Step.allocM {ι : Ren} {h : AH} {w : World} (e : Emb P ι h w) {n : Nat} (hn : ι n = none) {O O' : Obj} (hO : RoAt true O (some O')) (q : Nat) :
    Step P ι h w (upd ι n (some (w.heap.size, q))) (upd h n (some (.ro O true))) (w.alloc O') := by
  have hx : ∀ k b, ι k = some b → upd ι n (some (w.heap.size, q)) k = some b := fun k b hk => by
    rw [upd_other]; · exact hk
    · intro e; subst e; rw [hn] at hk; cases hk
  have hnew : (w.alloc O').heap[w.heap.size]? = some O' := heap_alloc_new w _
  refine ⟨hx, ⟨fun k c' t' hk => ?_, fun {m} k O hk => ?_, fun k k' b b' h1 h2 h3 h4 h5 => ?_, fun k b hk => ?_⟩, rfl, rfl, rfl, by simp, fun b hb _ => Below.heap_alloc w _ b hb, fun k b h1 h2 => ?_, fun k h1 h2 => ?_, fun k h1 h2 => ?_⟩
  · by_cases hk0 : k = n
    · subst hk0; rw [upd_same] at hk; injection hk with hk; cases hk
    · rw [upd_other hk0] at hk
      obtain ⟨b, C', hb, hB, hC, hQ⟩ := e.obj k c' t' hk
      exact ⟨b, C', hx k b hb, (Below.heap_alloc w _ b.1 (e.lt k b hb)).trans hB, hC.ext hx, hQ⟩
  · by_cases hk0 : k = n
    · subst hk0
      rw [upd_same] at hk
      injection hk with hk
      injection hk with h1 h2
      subst h1 h2
      exact ⟨_, upd_same, hO.on hnew⟩
    · rw [upd_other hk0] at hk
      obtain ⟨b, hb, hB⟩ := e.ro k O hk
      exact ⟨b, hx k b hb, hB.on (Below.heap_alloc w _ b.1 (e.lt k b hb))⟩
  · by_cases hk0 : k = n <;> by_cases hk1 : k' = n
    · rw [hk0, hk1]
    · subst hk0
      rw [upd_same] at h3; injection h3 with h3; subst h3
      rw [upd_other hk1] at h4
      have := e.lt k' _ h4
      simp only at h5
      omega
    · subst hk1
      rw [upd_same] at h4; injection h4 with h4; subst h4
      rw [upd_other hk0] at h3
      have := e.lt k _ h3
      simp only at h5
      omega
    · rw [upd_other hk0] at h1 h3
      rw [upd_other hk1] at h2 h4
      exact e.inj k k' b b' h1 h2 h3 h4 h5
  · by_cases hk0 : k = n
    · subst hk0; rw [upd_same] at hk; injection hk with hk; subst hk; simp
    · rw [upd_other hk0] at hk
      have := e.lt k b hk
      simp; omega
  · by_cases hk0 : k = n
    · subst hk0; rw [upd_same] at h2; injection h2 with h2; subst h2; exact .inl (Nat.le_refl _)
    · rw [upd_other hk0, h1] at h2; cases h2
  · by_cases hk0 : k = n
    · subst hk0; exact absurd hn h2
    · rwa [upd_other hk0] at h1
  · by_cases hk0 : k = n
    · subst hk0; exact absurd hn h2
    · rwa [upd_other hk0] at h1
/-- A map that is written. -/
theorem Step.storeM {ι : Ren} {h : AH} {w w' : World} (e : Emb P ι h w) {k0 : Nat} {b : Nat × Nat} {O0 O1 : Obj} (hk : h k0 = some (.ro O0 true)) (hb : ι k0 = some b)
    (hB : RoAt true O1 w'.heap[b.1]?) (hO : ∀ i, i ≠ b.1 → w'.heap[i]? = w.heap[i]?) (hs : w'.heap.size = w.heap.size) (ho : w'.os = w.os) (ht : w'.tape = w.tape) (hp : w'.output = w.output) :
    Step P ι h w ι (upd h k0 (some (.ro O1 true))) w' := by
  have hlive : (h k0).isSome := by rw [hk]; rfl
  have hlC : isC (h k0) = true := by rw [hk]; rfl
  have iso : ∀ k, (upd h k0 (some (.ro O1 true)) k).isSome → (h k).isSome := fun k hk1 => by
    by_cases hk0 : k = k0
    · subst hk0; exact hlive
    · rwa [upd_other hk0] at hk1
  have isoC : ∀ k, isC (upd h k0 (some (.ro O1 true)) k) = true → isC (h k) = true := fun k hk1 => by
    by_cases hk0 : k = k0
    · subst hk0; exact hlC
    · rwa [upd_other hk0] at hk1
  refine ⟨fun _ _ h => h, ⟨fun k c1 t1 hk1 => ?_, fun {m} k O hk1 => ?_, fun k k' b b' h1 h2 => e.inj k k' b b' (isoC k h1) (iso k' h2), fun k b hk => by rw [hs]; exact e.lt k b hk⟩, ho, ht, hp, by rw [hs]; exact Nat.le_refl _, fun i _ hno => hO i fun e1 => hno k0 b hlC hb e1.symm, fun k b h1 h2 => (by rw [h1] at h2; cases h2), fun k h1 _ => iso k h1, fun k h1 _ => isoC k h1⟩
  · by_cases hk0 : k = k0
    · subst hk0; rw [upd_same] at hk1; injection hk1 with hk1; cases hk1
    · rw [upd_other hk0] at hk1
      obtain ⟨b1, C1, hb1, hB1, hC1, hQ⟩ := e.obj k c1 t1 hk1
      refine ⟨b1, C1, hb1, (hO b1.1 fun e1 => hk0 (e.inj k k0 b1 b (by rw [hk1]; rfl) hlive hb1 hb e1)).trans hB1, hC1, hQ⟩
  · by_cases hk0 : k = k0
    · subst hk0
      rw [upd_same] at hk1
      injection hk1 with hk1
      injection hk1 with h1 h2
      subst h1 h2
      exact ⟨b, hb, hB⟩
    · rw [upd_other hk0] at hk1
      obtain ⟨b1, hb1, hB1⟩ := e.ro k O hk1
      exact ⟨b1, hb1, hB1.on (hO b1.1 fun e1 => hk0 (e.inj k0 k b b1 hlC (by rw [hk1]; rfl) hb hb1 e1.symm).symm)⟩
/-- A block that has a new number. -/
theorem Step.rename {ι : Ren} {h : AH} {w : World} (e : Emb P ι h w) {n k0 : Nat} {b : Nat × Nat} (hn : ι n = none) (hb : ι k0 = some b) (hlC : isC (h k0) = true) :
    Step P ι h w (upd ι n (some b)) (upd (upd h k0 none) n (h k0)) w := by
  have hl : (h k0).isSome := isC_some hlC
  have hne : n ≠ k0 := fun e => by subst e; rw [hn] at hb; cases hb
  have hx : ∀ k b', ι k = some b' → upd ι n (some b) k = some b' := fun k b' hk => by
    rw [upd_other]; · exact hk
    · intro e; subst e; rw [hn] at hk; cases hk
  have cases_ : ∀ k, (upd (upd h k0 none) n (h k0) k).isSome → k = n ∨ (k ≠ n ∧ k ≠ k0 ∧ (h k).isSome) := fun k hk => by
    by_cases h1 : k = n
    · exact .inl h1
    · rw [upd_other h1] at hk
      exact .inr ⟨h1, upd_live hk⟩
  have casesC : ∀ k, isC (upd (upd h k0 none) n (h k0) k) = true → k = n ∨ (k ≠ n ∧ k ≠ k0 ∧ isC (h k) = true) := fun k hk => by
    by_cases h1 : k = n
    · exact .inl h1
    · rw [upd_other h1] at hk
      exact .inr ⟨h1, upd_liveC hk⟩
  refine ⟨hx, ⟨fun k c t hk => ?_, fun k O hk => ?_, fun k k' b1 b2 h1 h2 h3 h4 h5 => ?_, fun k b' hk => ?_⟩, rfl, rfl, rfl, Nat.le_refl _, fun _ _ _ => rfl, fun k b' h1 h2 => ?_, fun k h1 h2 => ?_, fun k h1 h2 => ?_⟩
  · rcases cases_ k (by rw [hk]; rfl) with rfl | ⟨h1, h2, _⟩
    · rw [upd_same] at hk
      obtain ⟨b1, C1, hb1, hB1, hC1, hQ⟩ := e.obj k0 c t hk
      rw [hb] at hb1; injection hb1 with hb1; subst hb1
      exact ⟨b, C1, upd_same, hB1, hC1.ext hx, hQ⟩
    · rw [upd_other h1, upd_other h2] at hk
      obtain ⟨b1, C1, hb1, hB1, hC1, hQ⟩ := e.obj k c t hk
      exact ⟨b1, C1, hx _ _ hb1, hB1, hC1.ext hx, hQ⟩
  · rcases cases_ k (by rw [hk]; rfl) with rfl | ⟨h1, h2, _⟩
    · rw [upd_same] at hk
      obtain ⟨b1, hb1, hB1⟩ := e.ro k0 O hk
      rw [hb] at hb1; injection hb1 with hb1; subst hb1
      exact ⟨b, upd_same, hB1⟩
    · rw [upd_other h1, upd_other h2] at hk
      obtain ⟨b1, hb1, hB1⟩ := e.ro k O hk
      exact ⟨b1, hx _ _ hb1, hB1⟩
  · rcases casesC k h1 with rfl | ⟨q1, q2, q3⟩ <;> rcases cases_ k' h2 with rfl | ⟨r1, r2, r3⟩
    · rfl
    · rw [upd_same] at h3; injection h3 with h3; subst h3
      rw [upd_other r1] at h4
      exact absurd (e.inj k0 k' _ _ hlC r3 hb h4 h5).symm r2
    · rw [upd_same] at h4; injection h4 with h4; subst h4
      rw [upd_other q1] at h3
      exact absurd (e.inj k k0 _ _ q3 hl h3 hb h5) q2
    · rw [upd_other q1] at h3
      rw [upd_other r1] at h4
      exact e.inj k k' _ _ q3 r3 h3 h4 h5
  · by_cases h1 : k = n
    · subst h1; rw [upd_same] at hk; injection hk with hk; subst hk; exact e.lt k0 _ hb
    · rw [upd_other h1] at hk; exact e.lt k b' hk
  · by_cases hk0 : k = n
    · subst hk0; rw [upd_same] at h2; injection h2 with h2; subst h2; exact .inr ⟨k0, b, hlC, hb, rfl⟩
    · rw [upd_other hk0, h1] at h2; cases h2
  · rcases cases_ k h1 with rfl | ⟨_, _, q3⟩
    · exact absurd hn h2
    · exact q3
  · rcases casesC k h1 with rfl | ⟨_, _, q3⟩
    · exact absurd hn h2
    · exact q3
/-- The first cells of a block alone, under another number, with room for as many as are known. -/
theorem Step.cut {ι : Ren} {h : AH} {w : World} (e : Emb P ι h w) {n k0 : Nat} {b b' : Nat × Nat} (hn : ι n = none) (hb : ι k0 = some b) {c : List Value} {t : TypeId} (hk0 : h k0 = some (.cells c t)) (hb1 : b'.1 = b.1) (hb2 : ∀ i, P.info? t = some i → b'.2 ≤ b.2 ∨ b'.2 * i.size ≤ c.length) (r : Nat) :
    Step P ι h w (upd ι n (some b')) (upd (upd h k0 none) n (some (.cells (c.take r) t))) w := by
  have hlC : isC (h k0) = true := by rw [hk0]; rfl
  have hl : (h k0).isSome := isC_some hlC
  have hne : n ≠ k0 := fun e => by subst e; rw [hn] at hb; cases hb
  have hx : ∀ k b1, ι k = some b1 → upd ι n (some b') k = some b1 := fun k b1 hk => by
    rw [upd_other]; · exact hk
    · intro e; subst e; rw [hn] at hk; cases hk
  have cases_ : ∀ k, (upd (upd h k0 none) n (some (.cells (c.take r) t)) k).isSome → k = n ∨ (k ≠ n ∧ k ≠ k0 ∧ (h k).isSome) := fun k hk => by
    by_cases h1 : k = n
    · exact .inl h1
    · rw [upd_other h1] at hk
      exact .inr ⟨h1, upd_live hk⟩
  have casesC : ∀ k, isC (upd (upd h k0 none) n (some (.cells (c.take r) t)) k) = true → k = n ∨ (k ≠ n ∧ k ≠ k0 ∧ isC (h k) = true) := fun k hk => by
    by_cases h1 : k = n
    · exact .inl h1
    · rw [upd_other h1] at hk
      exact .inr ⟨h1, upd_liveC hk⟩
  refine ⟨hx, ⟨fun k c' t' hk => ?_, fun k O hk => ?_, fun k k' b1 b2 h1 h2 h3 h4 h5 => ?_, fun k b1 hk => ?_⟩, rfl, rfl, rfl, Nat.le_refl _, fun _ _ _ => rfl, fun k b1 h1 h2 => ?_, fun k h1 h2 => ?_, fun k h1 h2 => ?_⟩
  · rcases cases_ k (by rw [hk]; rfl) with rfl | ⟨h1, h2, _⟩
    · rw [upd_same] at hk
      injection hk with hk
      injection hk with q1 q2
      subst q1 q2
      obtain ⟨b1, C1, hb1', hB1, hC1, hQ⟩ := e.obj k0 c t hk0
      rw [hb] at hb1'; injection hb1' with hb1'; subst hb1'
      refine ⟨b', C1, upd_same, by rw [hb1]; exact hB1, ⟨by rw [List.length_take]; have := hC1.1; omega, fun i x y hx1 hy => ?_⟩, fun i hi => ?_⟩
      · have hir : i < r := by have := (List.getElem?_eq_some_iff.1 hx1).1; rw [List.length_take] at this; omega
        rw [List.getElem?_take_of_lt hir] at hx1
        exact (hC1.2 i x y hx1 hy).ext hx
      · rcases hb2 i hi with h3 | h3
        · exact Nat.le_trans (Nat.mul_le_mul_right _ h3) (hQ i hi)
        · exact Nat.le_trans h3 hC1.1
    · rw [upd_other h1, upd_other h2] at hk
      obtain ⟨b1, C1, hb1', hB1, hC1, hQ⟩ := e.obj k c' t' hk
      exact ⟨b1, C1, hx _ _ hb1', hB1, hC1.ext hx, hQ⟩
  · rcases cases_ k (by rw [hk]; rfl) with rfl | ⟨h1, h2, _⟩
    · rw [upd_same] at hk
      injection hk with hk
      cases hk
    · rw [upd_other h1, upd_other h2] at hk
      obtain ⟨b1, hb1', hB1⟩ := e.ro k O hk
      exact ⟨b1, hx _ _ hb1', hB1⟩
  · rcases casesC k h1 with rfl | ⟨q1, q2, q3⟩ <;> rcases cases_ k' h2 with rfl | ⟨r1, r2, r3⟩
    · rfl
    · rw [upd_same] at h3; injection h3 with h3; subst h3
      rw [upd_other r1] at h4
      exact absurd (e.inj k0 k' _ _ hlC r3 hb h4 (hb1 ▸ h5)).symm r2
    · rw [upd_same] at h4; injection h4 with h4; subst h4
      rw [upd_other q1] at h3
      exact absurd (e.inj k k0 _ _ q3 hl h3 hb (hb1 ▸ h5)) q2
    · rw [upd_other q1] at h3
      rw [upd_other r1] at h4
      exact e.inj k k' _ _ q3 r3 h3 h4 h5
  · by_cases h1 : k = n
    · subst h1; rw [upd_same] at hk; injection hk with hk; subst hk; rw [hb1]; exact e.lt k0 _ hb
    · rw [upd_other h1] at hk; exact e.lt k b1 hk
  · by_cases hk0' : k = n
    · subst hk0'; rw [upd_same] at h2; injection h2 with h2; subst h2; exact .inr ⟨k0, b, hlC, hb, hb1.symm⟩
    · rw [upd_other hk0', h1] at h2; cases h2
  · rcases cases_ k h1 with rfl | ⟨_, _, q3⟩
    · exact absurd hn h2
    · exact q3
  · rcases casesC k h1 with rfl | ⟨_, _, q3⟩
    · exact absurd hn h2
    · exact q3
theorem Dom.one {ι : Ren} {n : Nat} {b : Nat × Nat} : Dom ι (upd ι n (some b)) n (n + 1) := fun k hk => by
  by_cases h1 : k = n
  · subst h1; exact .inr (.inl ⟨Nat.le_refl _, Nat.lt_succ_self _⟩)
  · rw [upd_other h1] at hk; exact .inl hk
end
end Ev
end Go.Proofs.YtldlnclkdgfahaaGreat
