/- Part 4. -/
import Derived.Test.YthfohmhipifiaaaGreatZac
set_option linter.unusedSimpArgs false
set_option linter.unusedVariables false
set_option linter.unusedVariables false
/- Functions of loops as machines: states at loops' heads, and a step from each to the next one. -/
namespace Go.Proofs.YthfohmhipifiaaaGreat
open Go.RowKit
namespace Ev
noncomputable section
def ZaD : List ZL → List Nat
  | [] => []
  | .rnd i :: K => i :: ZaD K
  | .seq _ :: K => ZaD K
  | .blk _ :: K => ZaD K
  | .scp :: K => ZaD K
def ZW {X R : Type} (step : X → Option (X ⊕ R)) : Nat → X → Option R
  | 0, _ => none
  | n + 1, x => match step x with
    | none => none
    | some (.inl y) => ZW step n y
    | some (.inr r) => some r
def goM {X R : Type} (step : X → Option (X ⊕ R)) (n : Nat) (o : Option (X ⊕ R)) : Option R :=
  match o with
  | none => none
  | some (.inl y) => ZW step n y
  | some (.inr r) => some r
theorem ZP (n : Nat) (h : Nat.ble n 1000000000 = true) : n ≤ far := Nat.le_of_ble_eq_true h
theorem ZvP {P : Program} {c : Code} {Q : Exit → Act → World → Prop} : ∀ (n m : Nat), n ≤ m → ∀ a w, Code.rounds P c Q n a w → Code.rounds P c Q m a w
  | 0, _, _, _, _, h => h.elim
  | n + 1, 0, hm, _, _, _ => by omega
  | n + 1, m + 1, hm, a, w, h => by
    rw [rounds_succ] at h ⊢;refine wp_mono h ?_;intro e a' w' h';cases e with
    | normal => exact ZvP n m (by omega) a' w' h'
    | exit i => exact h'
    | goto l => exact h'
    | ret => exact h'
    | panic ch => exact h'
    | outgrown => exact h'
theorem ZgU {P : Program} {fn : Func} {R : Ending → World → Prop} {Nx Nx' : Nat → Act → World → Prop} : ∀ {K : List ZL}, (∀ j ∈ ZaD K, Nx' j = Nx j) → post P fn R Nx' K = post P fn R Nx K
  | [], _ => rfl
  | .seq b :: K, h => by simp only [post]; rw [ZgU (K := K) h]
  | .blk id :: K, h => by simp only [post]; rw [ZgU (K := K) h]
  | .scp :: K, h => by simp only [post]; rw [ZgU (K := K) h]
  | .rnd j :: K, h => by simp only [post];rw [ZgU (K := K) fun j hj => h j (List.mem_cons_of_mem _ hj), h j (List.mem_cons_self ..)]
def ZhL : Nat → List (Option AObj) → Tr AObj
  | _, [] => .nil
  | i, none :: l => ZhL (i + 1) l
  | i, some o :: l => (ZhL (i + 1) l).set i (some o)
theorem ZoU : ∀ (l : List (Option AObj)) (i k : Nat), (ZhL i l).get k = if i ≤ k then (l[k - i]?).join else none
  | [], i, k => by show (Tr.nil : Tr AObj).get k = _;rw [Tr.get_nil];split <;> simp
  | none :: l, i, k => by
    show (ZhL (i + 1) l).get k = _;rw [ZoU l (i + 1) k];by_cases h : i + 1 ≤ k
    · rw [if_pos h, if_pos (by omega)];have : k - i = (k - (i + 1)) + 1 := by omega
      rw [this, List.getElem?_cons_succ]
    · rw [if_neg h];by_cases hk : i ≤ k
      · rw [if_pos hk, show k - i = 0 by omega]; rfl
      · rw [if_neg hk]
  | some o :: l, i, k => by
    show ((ZhL (i + 1) l).set i (some o)).get k = _;rw [Tr.get_set];by_cases hk : k = i
    · subst hk; rw [Zk, if_pos (Nat.le_refl _)]; simp
    · rw [Zf hk, ZoU l (i + 1) k];by_cases h : i + 1 ≤ k
      · rw [if_pos h, if_pos (by omega)];have : k - i = (k - (i + 1)) + 1 := by omega
        rw [this, List.getElem?_cons_succ]
      · rw [if_neg h, if_neg (by omega)]
theorem ZrC (l : List (Option AObj)) : (ZhL 0 l).get = lkO l := funext fun k => by rw [ZoU]; simp [lkO]
theorem ZiA {nt m : Nat} {lt : List (Nat × Value)} {H : List (Option AObj)} {T : Tr Value} {s : St} {live : List Nat} (hl : live.length = m) (hn : live.Nodup) (ht : Zc0 (rho live far) ((lt.map (·.1)).map T.get) lt) (hb : Z1 (rho live far) (live.map s.h.get) H) : Into nt m (fun t => Zaq t lt) (ZhL 0 H) T s live := by refine ⟨hl, hn, fun t v _ h => Zyw ht t v h, fun j o ho => ?_⟩;rw [ZrC] at ho;exact Zh7 hb j o ho
/-! ### A slice of no room may stand for a nil one -/
def WkV (x y : Value) : Prop := x = y ∨ (x = .slice none 0 0 ∧ ∃ A : Addr, y = .slice (some A) 0 0)
def WkC : List Value → List Value → Prop
  | [], [] => True
  | x :: l, y :: m => WkV x y ∧ WkC l m
  | _, _ => False
def WkO (a b : Option AObj) : Prop := a = b ∨ (∃ c c' t q, a = some (.cells c t q) ∧ b = some (.cells c' t q) ∧ WkC c c') ∨ ∃ c c' t, a = some (.cells c t) ∧ b = some (.cells c' t true) ∧ WkC c c'
def WkL : List (Option AObj) → List (Option AObj) → Prop
  | [], [] => True
  | a :: l, b :: m => WkO a b ∧ WkL l m
  | _, _ => False
theorem WkL.refl : ∀ l, WkL l l
  | [] => trivial
  | _ :: l => ⟨.inl rfl, WkL.refl l⟩
theorem WkL.len : ∀ {l m}, WkL l m → l.length = m.length
  | [], [], _ => rfl
  | _ :: l, _ :: m, h => congrArg (· + 1) h.2.len
  | [], _ :: _, h => h.elim
  | _ :: _, [], h => h.elim
theorem WkL.at_ : ∀ {l m}, WkL l m → ∀ k, WkO (lkO l k) (lkO m k)
  | [], [], _, k => .inl rfl
  | a :: l, b :: m, h, 0 => by simpa [lkO] using h.1
  | a :: l, b :: m, h, k + 1 => by have := h.2.at_ k;simpa [lkO] using this
  | [], _ :: _, h, _ => h.elim
  | _ :: _, [], h, _ => h.elim
theorem WkV.vr {ι : Ren} {x y r : Value} (h : WkV x y) (hv : VR ι x r) : VR ι y r := by
  rcases h with rfl | ⟨rfl, A, rfl⟩
  · exact hv
  · cases hv with
    | atom h => exact .slice0 fun _ => rfl
theorem WkC.cells : ∀ {c c' : List Value}, WkC c c' → c.length = c'.length ∧ ∀ (i : Nat) y, c'[i]? = some y → ∃ x, c[i]? = some x ∧ WkV x y
  | [], [], _ => ⟨rfl, fun i y h => by simp at h⟩
  | x :: l, y :: m, h => by
    obtain ⟨h1, h2⟩ := h.2.cells;refine ⟨congrArg (· + 1) h1, fun i z hz => ?_⟩;cases i with
    | zero => exact ⟨x, rfl, by have : y = z := by simpa using hz
                                exact this ▸ h.1⟩
    | succ i =>
      obtain ⟨x', q1, q2⟩ := h2 i z (by simpa using hz);exact ⟨x', by simpa using q1, q2⟩
  | [], _ :: _, h => h.elim
  | _ :: _, [], h => h.elim
theorem WkC.nil {c c' : List Value} (h : WkC c c') : c'.isEmpty = c.isEmpty := by cases c <;> cases c' <;> first | rfl | exact h.elim
theorem WkO.kind {a b : Option AObj} (h : WkO a b) : (∀ d, ZQ b d = true → ZQ a d = true) ∧ ∀ d, Zae b d = true → Zae a d = true := by
  rcases h with rfl | ⟨c, c', t, q, rfl, rfl, hw⟩ | ⟨c, c', t, rfl, rfl, hw⟩
  · exact ⟨fun _ h => h, fun _ h => h⟩
  · have e1 : isC (some (.cells c' t q)) = isC (some (.cells c t q)) := by
      cases q with
      | false => rfl
      | true => show (!c'.isEmpty) = (!c.isEmpty); rw [hw.nil]
    have e2 : sol (some (.cells c' t q)) = sol (some (.cells c t q)) := e1;exact ⟨fun d h => by unfold ZQ at h ⊢; rw [e1] at h; exact h, fun d h => by unfold Zae at h ⊢; rw [e2] at h; exact h⟩
  · exact ⟨fun _ _ => rfl, fun _ _ => rfl⟩
theorem Emb.weaken {P : Program} {ι : Ren} {h h' : AH} {w : World} (e : Emb P ι h w) (hw : ∀ k, WkO (h k) (h' k)) : Emb P ι h' w where
  obj := fun k c t q hk => by
    rcases hw k with z | ⟨c1, c2, t1, q1, z1, z2, z3⟩ | ⟨c1, c2, t1, z1, z2, z3⟩
    · exact e.obj k c t q (z.trans hk)
    · rw [z2] at hk;injection hk with hk
      injection hk with hc ht hq;subst hc ht hq
      obtain ⟨b, hb, ⟨y1, y2, y3⟩ | ⟨y1, C, r2, r3, r4⟩⟩ := e.obj k c1 t1 q1 z1
      · subst y2;refine ⟨b, hb, .inl ⟨y1, ?_, y3⟩⟩;cases c2 with
        | nil => rfl
        | cons x l => exact z3.elim
      · obtain ⟨l1, l2⟩ := z3.cells;refine ⟨b, hb, .inr ⟨?_, C, r2, ⟨l1 ▸ r3.1, fun i x y hx hy => ?_⟩, r4⟩⟩
        · have e1 : isC (some (.cells c2 t1 q1)) = isC (some (.cells c1 t1 q1)) := by
            cases q1 with
            | false => rfl
            | true => show (!c2.isEmpty) = (!c1.isEmpty); rw [z3.nil]
          unfold ZQ at y1 ⊢;rw [e1]; exact y1
        · obtain ⟨x', w1, w2⟩ := l2 i x hx;exact w2.vr (r3.2 i x' y w1 hy)
    · rw [z2] at hk;injection hk with hk
      injection hk with hc ht hq;subst hc ht hq
      obtain ⟨b, C, hb, r2, r3, r4⟩ := e.objF k c1 t1 z1;obtain ⟨l1, l2⟩ := z3.cells;by_cases hz : c2 = [] ∧ b.2 = 0
      · exact ⟨b, hb, .inl ⟨rfl, hz.1, hz.2⟩⟩
      refine ⟨b, hb, .inr ⟨?_, C, r2, ⟨l1 ▸ r3.1, fun i x y hx hy => ?_⟩, r4⟩⟩
      · cases c2 with
        | nil =>
          have hb2 : b.2 ≠ 0 := fun h => hz ⟨rfl, h⟩;show (false || (true && !Nat.beq b.2 0)) = true;cases hq : Nat.beq b.2 0 with
          | true => exact absurd (Nat.eq_of_beq_eq_true hq) hb2
          | false => rfl
        | cons x l => rfl
      · obtain ⟨x', w1, w2⟩ := l2 i x hx;exact w2.vr (r3.2 i x' y w1 hy)
  ro := fun {m} k O hk => by
    rcases hw k with q | ⟨c1, c2, t1, q1, z1, z2, z3⟩ | ⟨c1, c2, t1, z1, z2, z3⟩
    · exact e.ro k O (q.trans hk)
    · rw [z2] at hk; injection hk with hk; cases hk
    · rw [z2] at hk; injection hk with hk; cases hk
  inj := fun k k' b b' h1 h2 h3 h4 h5 => e.inj k k' b b' ((hw k).kind.1 _ h1) ((hw k').kind.2 _ h2) h3 h4 h5
  lt := e.lt
  mks := fun b base id q hq => by obtain ⟨m1, m2, m3⟩ := e.mks b base id q hq;exact ⟨m1, m2, fun k d hk hd => m3 k d ((hw k).kind.1 _ hk) hd⟩
  tb := e.tb
theorem Step.weaken {P : Program} {ι ι' : Ren} {h h1 h2 : AH} {w w' : World} (s : Step P ι h w ι' h1 w') (hw : ∀ k, WkO (h1 k) (h2 k)) : Step P ι h w ι' h2 w' where
  ext := s.ext
  emb := s.emb.weaken hw
  os := s.os
  tape := s.tape
  output := s.output
  size := s.size
  frame := s.frame
  new := fun k b h1 h2 h3 => s.new k b h1 h2 (h3.imp (fun h => (hw k).kind.2 b h) id)
  alive := fun k b hk hi => s.alive k b ((hw k).kind.2 b hk) hi
  kind := fun k b hk hi => s.kind k b ((hw k).kind.1 b hk) hi
theorem Step.ph {P : Program} {ι0 ι : Ren} {h0 h : AH} {w0 w : World} (S : Step P ι0 h0 w0 ι h w) {j i : Nat} (t : TypeId) (hjf : j < 1000000000) (hj : ι j = none) (hh : h j = none) (hi : isC (h i) = true) : ∃ b, Step P ι0 h0 w0 (upd ι j (some b)) (upd h j (some (.cells [] t true))) w := by
  obtain ⟨bi, hbi⟩ := S.emb.live (Z4b hi);have hx : ∀ k b, ι k = some b → upd ι j (some (bi.1, 0)) k = some b := fun k b hk => by
    rw [Zf]; · exact hk
    · intro e; subst e; rw [hj] at hk; cases hk
  have ne : ∀ k o, upd h j (some (AObj.cells [] t true)) k = some o → k ≠ j → h k = some o := fun k o hk hkj => by rwa [Zf hkj] at hk
  have neC : ∀ k b, ZQ (upd h j (some (AObj.cells [] t true)) k) b = true → upd ι j (some (bi.1, 0)) k = some b → k ≠ j ∧ ZQ (h k) b = true := fun k b hk hb => by
    by_cases hkj : k = j
    · subst hkj; rw [Zk] at hk hb; injection hb with hb; subst hb; cases hk
    · exact ⟨hkj, by rwa [Zf hkj] at hk⟩
  have neS : ∀ k b, Zae (upd h j (some (AObj.cells [] t true)) k) b = true → upd ι j (some (bi.1, 0)) k = some b → k ≠ j ∧ Zae (h k) b = true := fun k b hk hb => by
    by_cases hkj : k = j
    · subst hkj; rw [Zk] at hk hb; injection hb with hb; subst hb; cases hk
    · exact ⟨hkj, by rwa [Zf hkj] at hk⟩
  refine ⟨(bi.1, 0), fun k b hk => hx k b (S.ext k b hk), ⟨fun k c t' q hk => ?_, fun k O hk => ?_, fun k k' b b' h1 h2 h3 h4 h5 => ?_, fun k b hk => ?_, fun b base id q hq => ?_, fun x hx' => (S.emb.tb x hx').imp fun q hq => hx _ _ hq⟩, S.os, S.tape, S.output, S.size, S.frame, fun k b h1 h2 h3 => ?_, fun k b h1 h2 => S.alive k b (neS k b h1 (hx k b (S.ext k b h2))).2 h2, fun k b h1 h2 => S.kind k b (neC k b h1 (hx k b (S.ext k b h2))).2 h2⟩
  · by_cases hkj : k = j
    · subst hkj;rw [Zk] at hk;injection hk with hk
      injection hk with q1 q2 q3;subst q1 q2 q3
      exact ⟨_, Zk, .inl ⟨rfl, rfl, rfl⟩⟩
    · obtain ⟨b, hb, hz⟩ := S.emb.obj k c t' q (ne k _ hk hkj);exact ⟨b, hx k b hb, hz.imp id fun ⟨z1, C, z2, z3, z4⟩ => ⟨z1, C, z2, z3.ext hx, z4⟩⟩
  · by_cases hkj : k = j
    · subst hkj; rw [Zk] at hk; injection hk with hk; cases hk
    · obtain ⟨b, hb, hB⟩ := S.emb.ro k O (ne k _ hk hkj);exact ⟨b, hx k b hb, hB⟩
  · obtain ⟨g1, g2⟩ := neC k b h1 h3;obtain ⟨g3, g4⟩ := neS k' b' h2 h4;rw [Zf g1] at h3;rw [Zf g3] at h4;exact S.emb.inj k k' b b' g2 g4 h3 h4 h5
  · by_cases hkj : k = j
    · subst hkj; rw [Zk] at hk; injection hk with hk; subst hk; exact S.emb.lt i bi hbi
    · rw [Zf hkj] at hk; exact S.emb.lt k b hk
  · obtain ⟨m1, m2, m3⟩ := S.emb.mks b base id q (Zna hjf _ _ _ _ hq);refine ⟨m1, ⟨m2.1.ext hx rfl, fun o c hc => hx _ _ (m2.2 o c hc)⟩, fun k d hk hd => ?_⟩;obtain ⟨g1, g2⟩ := neC k d hk hd;rw [Zf g1] at hd;exact m3 k d g2 hd
  · by_cases hkj : k = j
    · subst hkj;rw [Zk] at h2;injection h2 with h2
      subst h2;cases hi0 : ι0 i with
      | none => exact S.new i bi hi0 hbi (.inl (Zml (Zuf hi)))
      | some c =>
        have := S.ext i c hi0;rw [hbi] at this;injection this with this
        subst this;exact .inr ⟨i, _, S.kind i _ (ZfD hi) hi0, hi0, rfl⟩
    · rw [Zf hkj] at h2;exact S.new k b h1 h2 (h3.imp (fun h => by rwa [Zf hkj] at h) id)
def Znp : List (Nat × TypeId) → List (Option AObj) → List (Option AObj)
  | [], H => H
  | x :: js, H => Znp js (H.set x.1 (some (.cells [] x.2 true)))
def Z2B (live : List Nat) (H : List (Option AObj)) (js : List (Nat × TypeId)) : Bool :=
  Zu (fun x => (match live[x.1]? with | some k => Nat.ble 500000000 k | none => false) && (match H[x.1]? with | some none => true | _ => false)) js && decide (js.map (·.1)).Nodup
theorem ZvQ : ∀ (js : List (Nat × TypeId)) (H : List (Option AObj)), (Znp js H).length = H.length
  | [], _ => rfl
  | x :: js, H => by show (Znp js _).length = _; rw [ZvQ js]; simp
theorem Z1B {H : List (Option AObj)} {j : Nat} {o : Option AObj} (hj : j < H.length) : lkO (H.set j o) = upd (lkO H) j o := funext fun k => by
  unfold lkO;by_cases hk : k = j
  · subst hk; rw [Zk]; simp [hj]
  · rw [Zf hk, List.getElem?_set_ne (fun e => hk e.symm)]
theorem Zy5 {P : Program} {ι0 : Ren} {h0 : AH} {w0 w : World} {i : Nat} : ∀ (js : List (Nat × TypeId)) (H : List (Option AObj)) (ι : Ren), H.length ≤ far → (∀ x ∈ js, H[x.1]? = some none ∧ ι x.1 = none) → (js.map (·.1)).Nodup → (js = [] ∨ isC (lkO H i) = true) → Step P ι0 h0 w0 ι (lkO H) w →
    ∃ ι', (∀ k b, ι k = some b → ι' k = some b) ∧ Step P ι0 h0 w0 ι' (lkO (Znp js H)) w ∧ ∀ k, H.length ≤ k → ι k = none → ι' k = none
  | [], H, ι, _, _, _, _, S => ⟨ι, fun _ _ h => h, S, fun _ _ h => h⟩
  | x :: js, H, ι, hl, hx, hn, hi, S => by
    obtain ⟨h1, h2⟩ := hx x (List.mem_cons_self ..);have hlt : x.1 < H.length := (List.getElem?_eq_some_iff.1 h1).1;have hC : isC (lkO H i) = true := by rcases hi with h | h; cases h; exact h
    have hn1 : lkO H x.1 = none := by unfold lkO; rw [h1]; rfl
    obtain ⟨b, S1⟩ := S.ph x.2 (Nat.lt_of_lt_of_le hlt hl) h2 hn1 hC;rw [← Z1B hlt] at S1;have hnd := List.nodup_cons.1 hn;have hix : i ≠ x.1 := fun e => by subst e; rw [hn1] at hC; cases hC
    obtain ⟨ι', q1, q2, q3⟩ := Zy5 (i := i) js (H.set x.1 (some (.cells [] x.2 true))) _ (by simpa using hl) (fun y hy => by have hne : y.1 ≠ x.1 := fun e => hnd.1 (List.mem_map.2 ⟨y, hy, e⟩);obtain ⟨g1, g2⟩ := hx y (List.mem_cons_of_mem _ hy);exact ⟨by rw [List.getElem?_set_ne (fun e => hne e.symm)]; exact g1, by rw [Zf hne]; exact g2⟩) hnd.2 (.inr (by rw [Z1B hlt, Zf hix]; exact hC)) S1
    refine ⟨ι', fun k c hk => q1 k c (by rw [Zf (fun e => by subst e; rw [h2] at hk; cases hk)]; exact hk), q2, fun k hk hk2 => q3 k (by simpa using hk) (by rw [Zf (by omega)]; exact hk2)⟩
def Znq : List Nat → Code → List ZL → Code × List ZL
  | [], c, K => (c, K)
  | 0 :: p, .seq a b, K => Znq p a (.seq b :: K)
  | 1 :: p, .seq _ b, K => Znq p b K
  | 2 :: p, .scope a, K => Znq p a (.scp :: K)
  | 3 :: p, .block i a, K => Znq p a (.blk i :: K)
  | 4 :: p, .cond _ a _, K => Znq p a K
  | 5 :: p, .cond _ _ b, K => Znq p b K
  | (n + 6) :: p, .loop a, K => Znq p a (.rnd n :: K)
  | _, _, K => (.skip, K)
structure Mach where
  fn : Func
  pre : List AObj
  X : Type
  R : Type
  step : X → Option (X ⊕ R)
  hd : X → Nat
  code : Nat → Code × List ZL
  isL : Nat → Bool
  L : X → List (Nat × Value)
  H : X → List (Option AObj)
  V : R → Value
  Po : R → List (Option AObj)
namespace Mach
section
variable (M : Mach)
def after (n : Nat) : M.X ⊕ M.R → Option M.R
  | .inl y => ZW M.step n y
  | .inr r => some r
def KK (i : Nat) : List ZL := match M.isL i with | true => .rnd i :: (M.code i).2 | false => (M.code i).2
def IntoM (y : M.X) (T : Tr Value) (s : St) : Prop :=
  ∃ live H0 js, WkL (Znp js H0) (M.H y) ∧ Z2B live H0 js = true ∧ (js = [] ∨ ∃ i, isC (lkO H0 i) = true) ∧ Zbw M.pre.length live = true ∧ Into M.fn.ntmps H0.length (fun t => Zaq t (M.L y)) (ZhL 0 H0) T s live
def To (K0 : List ZL) : StopC → M.X ⊕ M.R → Prop
  | .fin u s, .inr r => ∃ live, Zx7 M.pre.length (M.V r) (M.Po r) u s live
  | .next j T s, .inl y => j = M.hd y ∧ M.isL j = true ∧ j ∈ ZaD K0 ∧ M.IntoM y T s
  | .head b K T s, .inl y => M.isL (M.hd y) = true ∧ (b, K) = M.code (M.hd y) ∧ (∀ j ∈ ZaD K, j ∈ ZaD K0) ∧ M.IntoM y T s
  | .cut b K T s, .inl y => M.isL (M.hd y) = false ∧ (b, K) = M.code (M.hd y) ∧ (∀ j ∈ ZaD K, j ∈ ZaD K0) ∧ M.IntoM y T s
  | .thr u _, .inr r => M.V r = u ∧ Zc4 u = true ∧ M.Po r = M.pre.map fun _ => none
  | _, _ => False
def Start (x : M.X) (gv : Nat → Value) (P : Program) (ext : FuncId → Option Ext) (cd cm fu : Nat) (orc : Orc) : Option StopC :=
  Ze4 P ext M.fn M.fn.ntmps cd fu cm (M.code (M.hd x)).1 (M.KK (M.hd x)) (tmps M.fn.ntmps (fun t => Zaq t (M.L x)) gv) ⟨ZhL 0 (M.H x), (M.H x).length, [], orc, []⟩
def Ok (P : Program) (ext : FuncId → Option Ext) (x : M.X) (o : Option (M.X ⊕ M.R)) : Prop :=
  ∀ y, o = some y → ∀ gv, ∃ cd cm fu orc st, M.Start x gv P ext cd cm fu orc = some st ∧ (∀ p ∈ st.s.ob, p.1 = p.2) ∧ st.s.n ≤ 500000000 ∧ M.To (M.KK (M.hd x)) st y
def AtM (P : Program) (ι0 : Ren) (w0 : World) (y : M.X) (gv : Nat → Value) (a : Act) (w : World) : Prop :=
  At P M.fn.ntmps (tmps M.fn.ntmps (fun t => Zaq t (M.L y)) gv) (ZhL 0 (M.H y)).get (M.H y).length far ι0 (lk M.pre) w0 a w
end
section
variable {P : Program} {ext : FuncId → Option Ext}
section
variable (M : Mach) (P : Program) (r : M.R) (ι0 : Ren) (w0 : World) (n : Nat)
def Good (x : M.X) (Nx : Nat → Act → World → Prop) (a : Act) (w : World) : Prop :=
  match M.isL (M.hd x) with
  | true => Code.rounds P (M.code (M.hd x)).1 (post P M.fn (Fin P ι0 M.pre w0 (M.V r) (M.Po r)) Nx (M.code (M.hd x)).2) n a w
  | false => (M.code (M.hd x)).1.wp P (post P M.fn (Fin P ι0 M.pre w0 (M.V r) (M.Po r)) Nx (M.code (M.hd x)).2) a w
def Outer (js : List Nat) (Nx : Nat → Act → World → Prop) : Prop :=
  ∀ m z, m < n → ZW M.step m z = some r → M.isL (M.hd z) = true → M.hd z ∈ js → ∀ gv a w, M.AtM P ι0 w0 z gv a w → Nx (M.hd z) a w
end
theorem Z0A {n : Nat} (h : n ≤ far) : Zbw n (List.range n) = true := by
  unfold Zbw;rw [Bool.and_eq_true];constructor
  · rw [List.take_of_length_le (by simp)]; exact beq_self_eq_true _
  · have : ∀ l : List Nat, (∀ k ∈ l, k < 1000000000) → Zu (fun k => Nat.blt k 1000000000) l = true := by
      intro l
      induction l with
      | nil => intro _; rfl
      | cons x l ih =>
        intro hl;show (Nat.blt x 1000000000 && Zu _ l) = true;rw [ih fun k hk => hl k (List.mem_cons_of_mem _ hk), Bool.and_true, Nat.blt_eq];exact hl x (List.mem_cons_self ..)
    exact this _ fun k hk => Nat.lt_of_lt_of_le (List.mem_range.1 hk) h
section
variable (M : Mach)
theorem into_atM (hH : ∀ x, (M.H x).length ≤ far) {y : M.X} {T : Tr Value} {s : St} (h : M.IntoM y T s) {ι0 ι : Ren} {w0 w : World} {a : Act} (hd : ∀ k, ι0 k ≠ none → k < M.pre.length ∨ Zc7 k) (hT : TR ι M.fn.ntmps [] T a) (hS : Step P ι0 (lk M.pre) w0 ι s.h.get w) (hF : ∀ k, 500000000 ≤ k → k < far → ι k = none) : ∃ gv, M.AtM P ι0 w0 y gv a w := by
  obtain ⟨live, H0, js, hwk, hph, hi, hk, h1, h2, h3, h4⟩ := h;have hlen : H0.length = (M.H y).length := by rw [← hwk.len, ZvQ]
  obtain ⟨gv, ι', a1, a2, a3, _, a5⟩ := Zys hT hS live H0.length far rfl (Zr9 hk) h1 (hlen ▸ hH y) h2 (fun k hk2 => (hd k hk2).imp (ZsV hk) id) (fun t => Zaq t (M.L y)) h3 (ZhL 0 H0).get h4;rw [ZrC] at a2;unfold Z2B at hph;rw [Bool.and_eq_true] at hph;obtain ⟨i, hi'⟩ : ∃ i, js = [] ∨ isC (lkO H0 i) = true := by
    rcases hi with h | ⟨i, h⟩
    · exact ⟨0, .inl h⟩
    · exact ⟨i, .inr h⟩
  obtain ⟨ι2, b1, b2, b3⟩ := Zy5 (i := i) js H0 ι' (hlen ▸ hH y) (fun x hx => by
    have hq := Zaf hph.1 x hx;rw [Bool.and_eq_true] at hq;obtain ⟨g1, g2⟩ := hq;constructor
    · split at g2
      · assumption
      · cases g2
    · split at g1
      · rename_i k hlk;rw [a5 x.1 k hlk];exact hF k (Nat.le_of_ble_eq_true g1) (Zr9 hk k (List.mem_of_getElem? hlk))
      · cases g1) (of_decide_eq_true hph.2) hi' a2
  refine ⟨gv, ι2, a1.on b1, ?_, fun k hk1 hk2 => b3 k (hlen ▸ hk1) (a3 k (hlen ▸ hk1) hk2)⟩;rw [ZrC];exact b2.weaken hwk.at_
theorem run1 (hH : ∀ x, (M.H x).length ≤ far) (hPo : ∀ r, (M.Po r).length ≤ far) (r : M.R) {ι0 : Ren} {w0 : World} (hd0 : ∀ k, ι0 k ≠ none → k < M.pre.length ∨ Zc7 k) (n : Nat)
    (ih : ∀ m, m ≤ n → ∀ x, ZW M.step m x = some r → ∀ Nx, M.Outer P r ι0 w0 m (ZaD (M.code (M.hd x)).2) Nx → ∀ gv a w, M.AtM P ι0 w0 x gv a w → M.Good P r ι0 w0 m x Nx a w)
    {K0 : List ZL} {Nx : Nat → Act → World → Prop} (hNx : M.Outer P r ι0 w0 (n + 1) (ZaD K0) Nx) {st : StopC} {y : M.X ⊕ M.R} (hto : M.To K0 st y) (hy : M.after n y = some r)
    {ι : Ren} {a : Act} {w : World} (hS : Step P ι0 (lk M.pre) w0 ι st.s.h.get w) (hF : ∀ k, 500000000 ≤ k → k < far → ι k = none) : ZoR P M.fn (Fin P ι0 M.pre w0 (M.V r) (M.Po r)) Nx M.fn.ntmps ι a w st := by
  have sub : ∀ {K : List ZL}, (∀ j ∈ ZaD K, j ∈ ZaD K0) → M.Outer P r ι0 w0 n (ZaD K) Nx := fun {K} hs m z hm hz hl hj gv a w hat => hNx m z (by omega) hz hl (hs _ hj) gv a w hat;cases st with
  | fin u s =>
    cases y with
    | inl y => exact hto.elim
    | inr r' =>
      obtain ⟨live, hto⟩ := hto;obtain rfl : r' = r := Option.some.inj hy;exact fun v' hv => Zyt (hPo r') hd0 hto hS hv
  | next j T s =>
    cases y with
    | inr r' => exact hto.elim
    | inl y =>
      obtain ⟨rfl, hl, hj, hin⟩ := hto;intro hT;obtain ⟨gv, hat⟩ := M.into_atM hH hin hd0 hT hS hF;exact hNx n y (by omega) hy hl hj gv a w hat
  | head b K T s =>
    cases y with
    | inr r' => exact hto.elim
    | inl y =>
      obtain ⟨hl, hc, hsub, hin⟩ := hto;intro hT;obtain ⟨gv, hat⟩ := M.into_atM hH hin hd0 hT hS hF;have e1 : b = (M.code (M.hd y)).1 := congrArg Prod.fst hc;have e2 : K = (M.code (M.hd y)).2 := congrArg Prod.snd hc;subst e1 e2;have := ih n (Nat.le_refl _) y hy Nx (sub hsub) gv a w hat;unfold Good at this;rw [hl] at this;exact wp_loop_rounds n this
  | thr u s =>
    cases y with
    | inl y => exact hto.elim
    | inr r' =>
      obtain ⟨hv, ht, hpo⟩ := hto;obtain rfl : r' = r := Option.some.inj hy;intro _;have hl : (M.Po r').length = M.pre.length := by rw [hpo, List.length_map]
      have hfar : M.pre.length ≤ far := hl ▸ hPo r';have hf := Zyt (v := .bool true) (u := .bool true) (v' := .bool true) (post := M.Po r') (s := s) (live := List.range M.pre.length) (hPo r') hd0 ⟨by rw [hl, List.length_range], List.nodup_range, Z0A hfar, ⟨rfl, rfl⟩, fun j o hj => by rw [hpo] at hj;exfalso;unfold lkO at hj;rw [List.getElem?_map] at hj;cases hx : M.pre[j]? <;> rw [hx] at hj <;> cases hj⟩ hS (.atom rfl)
      rcases hf with ⟨v', ι', _, g2, g3, _⟩ | ⟨hz, _⟩
      · rw [← hv] at ht ⊢;exact .inr ⟨ht, ι', rfl, g2, g3⟩
      · cases hz
  | cut b K T s =>
    cases y with
    | inr r' => exact hto.elim
    | inl y =>
      obtain ⟨hl, hc, hsub, hin⟩ := hto;intro hT;obtain ⟨gv, hat⟩ := M.into_atM hH hin hd0 hT hS hF;have e1 : b = (M.code (M.hd y)).1 := congrArg Prod.fst hc;have e2 : K = (M.code (M.hd y)).2 := congrArg Prod.snd hc;subst e1 e2;have := ih n (Nat.le_refl _) y hy Nx (sub hsub) gv a w hat;unfold Good at this;rw [hl] at this;exact this
theorem rounds (F : Fit P ext) (M : Mach) (hH : ∀ x, (M.H x).length ≤ far) (hPo : ∀ r, (M.Po r).length ≤ far) (hK : ∀ x, M.isL (M.hd x) = true → M.hd x ∉ ZaD (M.code (M.hd x)).2) (ok : ∀ x, M.Ok P ext x (M.step x)) (r : M.R) {ι0 : Ren} {w0 : World} (hd0 : ∀ k, ι0 k ≠ none → k < M.pre.length ∨ Zc7 k) :
    ∀ (n : Nat) (x : M.X), ZW M.step n x = some r → ∀ Nx, M.Outer P r ι0 w0 n (ZaD (M.code (M.hd x)).2) Nx → ∀ gv a w, M.AtM P ι0 w0 x gv a w → M.Good P r ι0 w0 n x Nx a w := by
  intro n
  induction n using Nat.strongRecOn with
  | ind n ih =>
    intro x hx Nx hNx gv a w hat;cases n with
    | zero => cases hx
    | succ n =>
      have hat0 := hat;obtain ⟨ι, hT, hS, hfr⟩ := hat;cases hy : M.step x with
      | none => simp only [ZW, hy] at hx; cases hx
      | some y =>
        obtain ⟨cd, cm, fu, orc, st, hev, ho, hn, hto⟩ := ok x y hy gv;have hyr : M.after n y = some r := by cases y <;> (simp only [ZW, hy] at hx; exact hx)
        have hn' : st.s.n ≤ far := Nat.le_trans hn (by decide);have fresh : Fresh ι (M.H x).length st.s.n := ⟨hn', fun k h1 h2 => hfr k h1 (Nat.lt_of_lt_of_le h2 hn')⟩
        have ih' : ∀ m, m ≤ n → ∀ x, ZW M.step m x = some r → ∀ Nx, M.Outer P r ι0 w0 m (ZaD (M.code (M.hd x)).2) Nx → ∀ gv a w, M.AtM P ι0 w0 x gv a w → M.Good P r ι0 w0 m x Nx a w := fun m hm => ih m (by omega);have go : ∀ Nx', M.Outer P r ι0 w0 (n + 1) (ZaD (M.KK (M.hd x))) Nx' → (M.code (M.hd x)).1.wp P (post P M.fn (Fin P ι0 M.pre w0 (M.V r) (M.Po r)) Nx' (M.KK (M.hd x))) a w := fun Nx' hNx' =>
          (ZvO F (R := Fin P ι0 M.pre w0 (M.V r) (M.Po r)) (Nx := Nx') fu).1 cm _ _ _ _ st hev ho ι a w hT hS.emb fresh fun ι' a' w' g1 g2 => run1 M hH hPo r hd0 n ih' hNx' hto hyr (hS.trans g1) (fun k h1 h2 => by
            cases hik : ι' k with
            | none => rfl
            | some c =>
              rcases g2 k (by rw [hik]; simp) with h | ⟨_, h⟩ | h
              · exact absurd (hfr k (by have : (M.H x).length ≤ st.s.n := ((Zy4 F (fn := M.fn) (nt := M.fn.ntmps) (cd := cd) fu).1 _ _ _ _ _ _ hev).n; omega) h2) h
              · omega
              · omega)
        unfold Good;cases hl : M.isL (M.hd x) with
        | false =>
          have e : M.KK (M.hd x) = (M.code (M.hd x)).2 := by unfold KK; rw [hl]
          rw [e] at go;exact go Nx hNx
        | true =>
          have e : M.KK (M.hd x) = .rnd (M.hd x) :: (M.code (M.hd x)).2 := by unfold KK; rw [hl]
          rw [e] at go;show Code.rounds P _ _ (n + 1) a w;rw [rounds_succ]
          let Nx' : Nat → Act → World → Prop := fun j => if j = M.hd x then Code.rounds P (M.code (M.hd x)).1 (post P M.fn (Fin P ι0 M.pre w0 (M.V r) (M.Po r)) Nx (M.code (M.hd x)).2) n else Nx j
          have n1 : Nx' (M.hd x) = Code.rounds P (M.code (M.hd x)).1 (post P M.fn (Fin P ι0 M.pre w0 (M.V r) (M.Po r)) Nx (M.code (M.hd x)).2) n := if_pos rfl;have n2 : ∀ j, j ≠ M.hd x → Nx' j = Nx j := fun j hj => if_neg hj;have hp : post P M.fn (Fin P ι0 M.pre w0 (M.V r) (M.Po r)) Nx' (M.code (M.hd x)).2 = post P M.fn (Fin P ι0 M.pre w0 (M.V r) (M.Po r)) Nx (M.code (M.hd x)).2 := ZgU fun j hj => n2 j fun e => by subst e; exact hK x hl hj
          have := go Nx' fun m z hm hz hlz hj gv a w hat => by
            by_cases hzx : M.hd z = M.hd x
            · rw [hzx, n1];have := ih m (by omega) z hz Nx (fun m' z' h1 h2 h3 h4 => hNx m' z' (by omega) h2 h3 (by rw [hzx] at h4; exact h4)) gv a w hat;unfold Good at this;rw [hlz] at this;rw [hzx] at this;exact ZvP m n (by omega) a w this
            · rw [n2 _ hzx];rcases List.mem_cons.1 hj with h | h
              · exact absurd h hzx
              · exact hNx m z (by omega) hz hlz h gv a w hat
          simp only [post, hp, n1] at this;exact this
def Enter (P : Program) (ext : FuncId → Option Ext) (A : Array Value) (o : Option (M.X ⊕ M.R)) : Prop :=
  ∀ y, o = some y → ∃ cd cm fu orc st, Ze4 P ext M.fn M.fn.ntmps cd fu cm (ZM M.fn) [] (Zha 0 A.toList .nil) ⟨Zhb 0 M.pre, M.pre.length, [], orc, []⟩ = some st ∧ (∀ p ∈ st.s.ob, p.1 = p.2) ∧ st.s.n ≤ 500000000 ∧ M.To [] st y
end
theorem spec (F : Fit P ext) (M : Mach) {f : FuncId} (hfn : P.funcs[f]? = some M.fn) (hb : M.fn.body = some (ZM M.fn)) {A : Array Value} (hA : Nat.ble A.size M.fn.ntmps = true) (hH : ∀ x, (M.H x).length ≤ far) (hPo : ∀ r, (M.Po r).length ≤ far) (hK : ∀ x, M.isL (M.hd x) = true → M.hd x ∉ ZaD (M.code (M.hd x)).2)
    (ok : ∀ x, M.Ok P ext x (M.step x)) {o : Option (M.X ⊕ M.R)} (en : M.Enter P ext A o) {n : Nat} {r : M.R} (h : goM M.step n o = some r) : LSpec P f A M.pre (M.V r) (M.Po r) := by
  cases o with
  | none => cases h
  | some y =>
    obtain ⟨cd, cm, fu, orc, st, hev, ho, hn, hto⟩ := en y rfl;refine Z35 F hfn hb hA hev ho (Nat.le_trans hn (by decide)) fun ι0 w0 hd ι' a' w' hS hD => ?_;exact run1 M hH hPo r hd n (fun m _ => rounds F M hH hPo hK ok r hd m) (K0 := []) (fun m z _ _ _ hj => by cases hj) hto (by cases y <;> exact h) hS (fun k h1 h2 => by
      cases hik : ι' k with
      | none => rfl
      | some c =>
        rcases hD k (by rw [hik]; simp) with h | ⟨_, h⟩ | h
        · rcases hd k h with h | h
          · have : M.pre.length ≤ st.s.n := ((Zy4 F (fn := M.fn) (nt := M.fn.ntmps) (cd := cd) fu).1 _ _ _ _ _ _ hev).n; omega
          · unfold Zc7 at h; unfold far at h2; omega
        · omega
        · omega)
end
/-! ### How leaves are written -/
section
variable {P : Program} {ext : FuncId → Option Ext} {M : Mach} {x : M.X} {cd cm fu : Nat} {orc : Orc} {live : List Nat} {bl : List (Option AObj)} {ob : List (Bool × Bool)}
theorem ok_none : M.Ok P ext x none := fun _ h => by cases h
theorem ok_ite {c : Prop} [Decidable c] {A B : Option (M.X ⊕ M.R)} (h1 : c → M.Ok P ext x A) (h2 : ¬ c → M.Ok P ext x B) : M.Ok P ext x (if c then A else B) := by
  by_cases h : c
  · rw [if_pos h]; exact h1 h
  · rw [if_neg h]; exact h2 h
theorem ok_bind {α : Type} {o : Option α} {k : α → Option (M.X ⊕ M.R)} (h : ∀ r, o = some r → M.Ok P ext x (k r)) : M.Ok P ext x (o.bind k) := by
  cases o with
  | none => exact ok_none
  | some r => exact h r rfl
theorem ok_fin {r : M.R} {u : Value} (hev : ∀ gv, Zi9 live (M.Start x gv P ext cd cm fu orc) = some (u, bl, ob)) (ho : ∀ p ∈ ob, p.1 = p.2) (hl : live.length = (M.Po r).length) (hn : live.Nodup) (hk : Zbw M.pre.length live = true) (hv : M.V r = ZR (rho live far) 3 u ∧ Z3 3 u = true) (hbl : Z1 (rho live far) bl (M.Po r)) : M.Ok P ext x (some (.inr r)) := by intro y hy gv;obtain rfl := Option.some.inj hy;obtain ⟨s, h1, rfl, rfl, h4⟩ := ZoT (hev gv);exact ⟨cd, cm, fu, orc, _, h1, ho, h4, live, hl, hn, hk, hv, Zh7 hbl⟩
theorem ok_next {y : M.X} {tv : (Nat → Value) → List (Option Value)} (hL : M.isL (M.hd y) = true) (hr : M.hd y ∈ ZaD (M.KK (M.hd x))) (hev : ∀ gv, Zk1 (M.hd y) live ((M.L y).map (·.1)) (M.Start x gv P ext cd cm fu orc) = some (tv gv, bl, ob)) (ho : ∀ p ∈ ob, p.1 = p.2) (hl : live.length = (M.H y).length) (hn : live.Nodup) (hk : Zbw M.pre.length live = true) (ht : ∀ gv, Zc0 (rho live far) (tv gv) (M.L y)) (hbl : Z1 (rho live far) bl (M.H y)) : M.Ok P ext x (some (.inl y)) := by intro y' hy gv;obtain rfl := Option.some.inj hy;obtain ⟨T, s, h1, h2, rfl, rfl, h4⟩ := Zwm (hev gv);exact ⟨cd, cm, fu, orc, _, h1, ho, h4, rfl, hL, hr, live, M.H y, [], WkL.refl _, rfl, .inl rfl, hk, ZiA hl hn (h2 ▸ ht gv) hbl⟩
theorem Z1C {y : M.X} {tv : (Nat → Value) → List (Option Value)} {bK : Code × List ZL} (hL : M.isL (M.hd y) = true) (hr : bK = M.code (M.hd y)) (hsub : ∀ j ∈ ZaD (M.code (M.hd y)).2, j ∈ ZaD (M.KK (M.hd x))) (hev : ∀ gv, ZeQ live ((M.L y).map (·.1)) (M.Start x gv P ext cd cm fu orc) = some (bK, tv gv, bl, ob)) (ho : ∀ p ∈ ob, p.1 = p.2) (hl : live.length = (M.H y).length) (hn : live.Nodup) (hk : Zbw M.pre.length live = true) (ht : ∀ gv, Zc0 (rho live far) (tv gv) (M.L y)) (hbl : Z1 (rho live far) bl (M.H y)) : M.Ok P ext x (some (.inl y)) := by intro y' hy gv;obtain rfl := Option.some.inj hy;obtain ⟨T, s, h1, h2, rfl, rfl, h4⟩ := Zhc (hev gv);exact ⟨cd, cm, fu, orc, _, h1, ho, h4, hL, hr, by rw [hr]; exact hsub, live, M.H y, [], WkL.refl _, rfl, .inl rfl, hk, ZiA hl hn (h2 ▸ ht gv) hbl⟩
theorem Z36 {y : M.X} {tv : (Nat → Value) → List (Option Value)} {bK : Code × List ZL} (hL : M.isL (M.hd y) = false) (hr : bK = M.code (M.hd y)) (hsub : ∀ j ∈ ZaD (M.code (M.hd y)).2, j ∈ ZaD (M.KK (M.hd x))) (hev : ∀ gv, ZoS live ((M.L y).map (·.1)) (M.Start x gv P ext cd cm fu orc) = some (bK, tv gv, bl, ob)) (ho : ∀ p ∈ ob, p.1 = p.2) (hl : live.length = (M.H y).length) (hn : live.Nodup) (hk : Zbw M.pre.length live = true) (ht : ∀ gv, Zc0 (rho live far) (tv gv) (M.L y)) (hbl : Z1 (rho live far) bl (M.H y)) : M.Ok P ext x (some (.inl y)) := by intro y' hy gv;obtain rfl := Option.some.inj hy;obtain ⟨T, s, h1, h2, rfl, rfl, h4⟩ := Z09 (hev gv);exact ⟨cd, cm, fu, orc, _, h1, ho, h4, hL, hr, by rw [hr]; exact hsub, live, M.H y, [], WkL.refl _, rfl, .inl rfl, hk, ZiA hl hn (h2 ▸ ht gv) hbl⟩
theorem ok_headW {y : M.X} (H0 : List (Option AObj)) (js : List (Nat × TypeId)) (i : Nat) (hw : WkL (Znp js H0) (M.H y)) (hp : Z2B live H0 js = true) (hi : isC (lkO H0 i) = true) {tv : (Nat → Value) → List (Option Value)} {bK : Code × List ZL} (hL : M.isL (M.hd y) = true) (hr : bK = M.code (M.hd y)) (hsub : ∀ j ∈ ZaD (M.code (M.hd y)).2, j ∈ ZaD (M.KK (M.hd x))) (hev : ∀ gv, ZeQ live ((M.L y).map (·.1)) (M.Start x gv P ext cd cm fu orc) = some (bK, tv gv, bl, ob)) (ho : ∀ p ∈ ob, p.1 = p.2) (hl : live.length = H0.length) (hn : live.Nodup) (hk : Zbw M.pre.length live = true) (ht : ∀ gv, Zc0 (rho live far) (tv gv) (M.L y)) (hbl : Z1 (rho live far) bl H0) : M.Ok P ext x (some (.inl y)) := by intro y' hy gv;obtain rfl := Option.some.inj hy;obtain ⟨T, s, h1, h2, rfl, rfl, h4⟩ := Zhc (hev gv);exact ⟨cd, cm, fu, orc, _, h1, ho, h4, hL, hr, by rw [hr]; exact hsub, live, H0, js, hw, hp, .inr ⟨i, hi⟩, hk, ZiA hl hn (h2 ▸ ht gv) hbl⟩
variable {A : Array Value}
def startE (M : Mach) (P : Program) (ext : FuncId → Option Ext) (A : Array Value) (cd cm fu : Nat) (orc : Orc) : Option StopC :=
  Ze4 P ext M.fn M.fn.ntmps cd fu cm (ZM M.fn) [] (Zha 0 A.toList .nil) ⟨Zhb 0 M.pre, M.pre.length, [], orc, []⟩
theorem en_none : M.Enter P ext A none := fun _ h => by cases h
theorem en_ite {c : Prop} [Decidable c] {B C : Option (M.X ⊕ M.R)} (h1 : c → M.Enter P ext A B) (h2 : ¬ c → M.Enter P ext A C) : M.Enter P ext A (if c then B else C) := by
  by_cases h : c
  · rw [if_pos h]; exact h1 h
  · rw [if_neg h]; exact h2 h
theorem en_bind {α : Type} {o : Option α} {k : α → Option (M.X ⊕ M.R)} (h : ∀ r, o = some r → M.Enter P ext A (k r)) : M.Enter P ext A (o.bind k) := by
  cases o with
  | none => exact en_none
  | some r => exact h r rfl
theorem en_fin {r : M.R} {u : Value} (hev : Zi9 live (M.startE P ext A cd cm fu orc) = some (u, bl, ob)) (ho : ∀ p ∈ ob, p.1 = p.2) (hl : live.length = (M.Po r).length) (hn : live.Nodup) (hk : Zbw M.pre.length live = true) (hv : M.V r = ZR (rho live far) 3 u ∧ Z3 3 u = true) (hbl : Z1 (rho live far) bl (M.Po r)) : M.Enter P ext A (some (.inr r)) := by intro y hy;obtain rfl := Option.some.inj hy;obtain ⟨s, h1, rfl, rfl, h4⟩ := ZoT hev;exact ⟨cd, cm, fu, orc, _, h1, ho, h4, live, hl, hn, hk, hv, Zh7 hbl⟩
theorem en_head {y : M.X} {tv : List (Option Value)} {bK : Code × List ZL} (hL : M.isL (M.hd y) = true) (hr : bK = M.code (M.hd y)) (hsub : ZaD (M.code (M.hd y)).2 = []) (hev : ZeQ live ((M.L y).map (·.1)) (M.startE P ext A cd cm fu orc) = some (bK, tv, bl, ob)) (ho : ∀ p ∈ ob, p.1 = p.2) (hl : live.length = (M.H y).length) (hn : live.Nodup) (hk : Zbw M.pre.length live = true) (ht : Zc0 (rho live far) tv (M.L y)) (hbl : Z1 (rho live far) bl (M.H y)) : M.Enter P ext A (some (.inl y)) := by intro y' hy;obtain rfl := Option.some.inj hy;obtain ⟨T, s, h1, rfl, rfl, rfl, h4⟩ := Zhc hev;exact ⟨cd, cm, fu, orc, _, h1, ho, h4, hL, hr, (fun j hj => by rw [show bK.2 = (M.code (M.hd y)).2 from congrArg Prod.snd hr, hsub] at hj; cases hj), live, M.H y, [], WkL.refl _, rfl, .inl rfl, hk, ZiA hl hn ht hbl⟩
theorem en_headW {y : M.X} (H0 : List (Option AObj)) (js : List (Nat × TypeId)) (i : Nat) (hw : WkL (Znp js H0) (M.H y)) (hp : Z2B live H0 js = true) (hi : isC (lkO H0 i) = true) {tv : List (Option Value)} {bK : Code × List ZL} (hL : M.isL (M.hd y) = true) (hr : bK = M.code (M.hd y)) (hsub : ZaD (M.code (M.hd y)).2 = []) (hev : ZeQ live ((M.L y).map (·.1)) (M.startE P ext A cd cm fu orc) = some (bK, tv, bl, ob)) (ho : ∀ p ∈ ob, p.1 = p.2) (hl : live.length = H0.length) (hn : live.Nodup) (hk : Zbw M.pre.length live = true) (ht : Zc0 (rho live far) tv (M.L y)) (hbl : Z1 (rho live far) bl H0) : M.Enter P ext A (some (.inl y)) := by intro y' hy;obtain rfl := Option.some.inj hy;obtain ⟨T, s, h1, rfl, rfl, rfl, h4⟩ := Zhc hev;exact ⟨cd, cm, fu, orc, _, h1, ho, h4, hL, hr, (fun j hj => by rw [show bK.2 = (M.code (M.hd y)).2 from congrArg Prod.snd hr, hsub] at hj; cases hj), live, H0, js, hw, hp, .inr ⟨i, hi⟩, hk, ZiA hl hn ht hbl⟩
end
end Mach
/-! ### Functions without loops -/
section
variable {P : Program} {ext : FuncId → Option Ext} {fn : Func} {pre : List AObj} {A : Array Value} {R : Type} {V : R → Value} {Po : R → List (Option AObj)} {live : List Nat} {bl : List (Option AObj)} {ob : List (Bool × Bool)} {fu : Nat} {orc : Orc}
section
variable (P : Program) (ext : FuncId → Option Ext) (fn : Func) (pre : List AObj) (A : Array Value)
def ZsX (fu : Nat) (orc : Orc) : Option Stop :=
  Zhr P ext fn fn.ntmps fu (ZM fn) [] (Zha 0 A.toList .nil) ⟨Zhb 0 pre, pre.length, [], orc, []⟩
def Fx {R : Type} (V : R → Value) (Po : R → List (Option AObj)) (o : Option R) : Prop :=
  ∀ r, o = some r → ∃ fu orc u s, ZsX P ext fn pre A fu orc = some (.fin u s) ∧ (∀ p ∈ s.ob, p.1 = p.2) ∧ s.n ≤ far ∧ ∃ live, Zx7 pre.length (V r) (Po r) u s live
end
theorem Zd : Fx P ext fn pre A V Po none := fun _ h => by cases h
theorem Zb {c : Prop} [Decidable c] {B C : Option R} (h1 : c → Fx P ext fn pre A V Po B) (h2 : ¬ c → Fx P ext fn pre A V Po C) : Fx P ext fn pre A V Po (if c then B else C) := by
  by_cases h : c
  · rw [if_pos h]; exact h1 h
  · rw [if_neg h]; exact h2 h
theorem Zx {α : Type} {o : Option α} {k : α → Option R} (h : ∀ r, o = some r → Fx P ext fn pre A V Po (k r)) : Fx P ext fn pre A V Po (o.bind k) := by
  cases o with
  | none => exact Zd
  | some r => exact h r rfl
theorem Z37 {r : R} {u : Value} (hev : ZoQ live (ZsX P ext fn pre A fu orc) = some (u, bl, ob)) (ho : ∀ p ∈ ob, p.1 = p.2) (hl : live.length = (Po r).length) (hn : live.Nodup) (hk : Zbw pre.length live = true) (hv : V r = ZR (rho live far) 3 u ∧ Z3 3 u = true) (hbl : Z1 (rho live far) bl (Po r)) : Fx P ext fn pre A V Po (some r) := by intro r' hr;obtain rfl := Option.some.inj hr;obtain ⟨s, h1, rfl, rfl, h4⟩ := Z08 hev;exact ⟨fu, orc, u, s, h1, ho, h4, live, hl, hn, hk, hv, Zh7 hbl⟩
theorem ZI (F : Fit P ext) {f : FuncId} (hfn : P.funcs[f]? = some fn) (hb : fn.body = some (ZM fn)) (hA : Nat.ble A.size fn.ntmps = true) (hPo : ∀ r, (Po r).length ≤ far) {o : Option R} (h : Fx P ext fn pre A V Po o) {r : R} (hr : o = some r) : LSpec P f A pre (V r) (Po r) := by obtain ⟨fu, orc, u, s, h1, h2, h3, live, h4⟩ := h r hr;exact Z31 F hfn hb hA h1 h2 h3 (hPo r) live h4
end
theorem Z1D {P : Program} {f : FuncId} {A A' : Array Value} {pre : List (Nat × AObj)} {v : Value} {post : List (Nat × Option AObj)} {n dn : Nat} (e : A = A') (h : Zb3 P f A' pre v post n dn) : Zb3 P f A pre v post n dn := e ▸ h
end
noncomputable section
def Ze5 : List Cell → Bool
 | [] => true
 | .any :: _ => false
 | .i _ :: l => Ze5 l
 | .b _ :: l => Ze5 l
 | .k _ _ :: l => Ze5 l
 | .s _ :: l => Ze5 l
 | .m _ _ _ _ :: l => Ze5 l
structure Enc (α : Type) where
 cel : α → List Cell
 w : Nat
 dflt : α
 clen : ∀ a, (cel a).length = w
 sure : ∀ a, Ze5 (cel a) = true
def Enc.enc {α : Type} (E : Enc α) (a : α) : List Value := Zm (E.cel a)
theorem Enc.len {α : Type} (E : Enc α) (a : α) : (E.enc a).length = E.w := by unfold Enc.enc Zm; rw [List.length_map, E.clen]
def Ze6 : Value → Bool
 | .pointer (some ⟨_, _, some _⟩) => true
 | .slice (some ⟨_, _, some _⟩) _ _ => true
 | v => atom v
theorem ZsY : ∀ l : List Cell, Ze5 l = true → Zu Ze6 (Zm l) = true
 | [], _ => rfl
 | c :: l, h => by
  show (Ze6 (ZdP c) && Zu Ze6 (Zm l)) = true;cases c with
  | any => cases h
  | _ => rw [ZsY l h]; rfl
theorem Enc.atoms {α : Type} (E : Enc α) (a : α) : Zu Ze6 (E.enc a) = true := ZsY _ (E.sure a)
def Za {α : Type} (E : Enc α) (L : List α) : List Value := L.flatMap E.enc
def Z9 {α : Type} (E : Enc α) (L : List α) : List Cell := L.flatMap E.cel
section
variable {α : Type} {E : Enc α}
theorem Zgf : Za E [] = [] := rfl
theorem ZcY (x : α) (L : List α) : Za E (x :: L) = E.enc x ++ Za E L := rfl
theorem Zk2 (L M : List α) : Za E (L ++ M) = Za E L ++ Za E M := by simp [Za]
theorem ZdK : ∀ L : List α, (Za E L).length = L.length * E.w
 | [] => by simp [Zgf]
 | x :: L => by rw [ZcY, List.length_append, ZdK L, E.len, List.length_cons, Nat.add_mul, Nat.one_mul, Nat.add_comm]
theorem ZoV : ∀ (i : Nat) (L : List α), (Za E L).drop (i * E.w) = Za E (L.drop i)
 | 0, L => by simp
 | i + 1, [] => by simp [Zgf]
 | i + 1, x :: L => by rw [ZcY, List.drop_succ_cons, ← ZoV i L, Nat.add_mul, Nat.one_mul, Nat.add_comm, ← List.drop_drop, ← E.len x, List.drop_left]
theorem Zlk : ∀ (i : Nat) (L : List α), (Za E L).take (i * E.w) = Za E (L.take i)
 | 0, L => by simp [Zgf]
 | i + 1, [] => by simp [Zgf]
 | i + 1, x :: L => by rw [ZcY, List.take_succ_cons, ZcY, ← Zlk i L, Nat.add_mul, Nat.one_mul, Nat.add_comm, List.take_append, E.len];rw [List.take_of_length_le (by rw [E.len]; omega), Nat.add_sub_cancel_left]
theorem ZoW {L : List α} {i : Nat} (h : i < L.length) (d : α) : L.drop i = L.getD i d :: L.drop (i + 1) := by rw [List.getD_eq_getElem?_getD, List.getElem?_eq_getElem h, Option.getD_some];exact List.drop_eq_getElem_cons h
theorem Z1E {L : List α} {o i q : Nat} (hi : i < L.length) (ho : o = i * E.w + q) (hq : q ≤ E.w) : (Za E L).drop o = (E.enc (L.getD i E.dflt)).drop q ++ Za E (L.drop (i + 1)) := by subst ho;rw [← List.drop_drop, ZoV, ZoW hi E.dflt, ZcY, List.drop_append, E.len, Nat.sub_eq_zero_of_le hq, List.drop_zero]
theorem Zfv {β : Type} : ∀ (m : Nat) (l : List β), m ≤ l.length → Z4 m l = some (l.take m)
 | 0, l, _ => by simp [Z4]
 | m + 1, [], h => by simp at h
 | m + 1, x :: l, h => by simp only [Z4];rw [Zfv m l (by simpa using h)];rfl
theorem Zy6 {L : List α} {o i q m : Nat} (hi : i < L.length) (ho : o = i * E.w + q) (hq : q + m ≤ E.w) : Z4 m ((Za E L).drop o) = some (((E.enc (L.getD i E.dflt)).drop q).take m) := by
 have hl := E.len (L.getD i E.dflt);rw [Z1E hi ho (by omega), Zfv _ _ (by simp only [List.length_append, List.length_drop, hl]; omega), List.take_append];have : m - ((E.enc (L.getD i E.dflt)).drop q).length = 0 := by simp only [List.length_drop, hl]; omega
 rw [this, List.take_zero, List.append_nil]
theorem Zdr : ∀ {cs : List Cell}, Ze5 cs = true → ZdD (Zm cs) cs = true
 | [], _ => rfl
 | c :: l, h => by
  cases c with
  | any => cases h
  | i n => show ((n == n) && ZdD (Zm l) l) = true; rw [Zdr (cs := l) h]; simp
  | b q => show ((q == q) && ZdD (Zm l) l) = true; rw [Zdr (cs := l) h]; simp
  | s x => show (dP (x = x) && ZdD (Zm l) l) = true; rw [Zdr (cs := l) h]; simp [dP]
  | m id o n c =>
   show (dP (ZdP (.m id o n c) = ZdP (.m id o n c)) && ZdD (Zm l) l) = true;rw [Zdr (cs := l) h, Zn rfl]; rfl
  | k kk n =>
   by_cases hk : kk = .i64
   ·subst hk; show ((decide (IntKind.i64 = IntKind.i64) && (n == n)) && ZdD (Zm l) l) = true; rw [Zdr (cs := l) h]; simp
   ·have e : ZdD (.int kk n :: Zm l) (.k kk n :: l) = ((decide (kk = kk) && (n == n)) && ZdD (Zm l) l) := by cases kk <;> rfl
    show ZdD (.int kk n :: Zm l) (.k kk n :: l) = true;rw [e, Zdr (cs := l) h]; simp
theorem Z38 {L : List α} {o i q m : Nat} {cs : List Cell} (hi : i < L.length) (ho : o = i * E.w + q) (hq : q + m ≤ E.w) (hs : Ze5 cs = true) (hc : ((E.enc (L.getD i E.dflt)).drop q).take m = Zm cs) : ZdQ (Z4 m ((Za E L).drop o)) cs = true := by rw [Zy6 hi ho hq, hc];exact Zdr hs
theorem Zbj {L : List α} {o i q : Nat} {l : List Value} (x : α) (hi : i < L.length) (ho : o = i * E.w + q) (hq : q + l.length ≤ E.w) (hx : Zju (E.enc (L.getD i E.dflt)) q l = E.enc x) : o + l.length ≤ (Za E L).length ∧ Zju (Za E L) o l = Za E (L.set i x) := by
 have hl := E.len (L.getD i E.dflt);have hle : o + l.length ≤ (Za E L).length := by have : (i + 1) * E.w ≤ L.length * E.w := Nat.mul_le_mul_right _ hi;rw [Nat.add_mul, Nat.one_mul] at this;rw [ZdK]; omega
 refine ⟨hle, ?_⟩;have e1 : L.set i x = L.take i ++ x :: L.drop (i + 1) := by rw [List.set_eq_take_append_cons_drop, if_pos hi]
 rw [e1, Zk2, ZcY, ← hx];unfold Zju;have h1 : (Za E L).take o = Za E (L.take i) ++ (E.enc (L.getD i E.dflt)).take q := by
  have hd : Za E L = Za E (L.take i) ++ (E.enc (L.getD i E.dflt) ++ Za E (L.drop (i + 1))) := by rw [← ZcY, ← ZoW hi, ← Zk2, List.take_append_drop]
  rw [hd, List.take_append];have hlen : (Za E (L.take i)).length = i * E.w := by rw [ZdK, List.length_take]; rw [Nat.min_eq_left (by omega)]
  rw [List.take_of_length_le (by omega), hlen, show o - i * E.w = q by omega, List.take_append];rw [show q - (E.enc (L.getD i E.dflt)).length = 0 by omega, List.take_zero, List.append_nil]
 have h2 : (Za E L).drop (o + l.length) = (E.enc (L.getD i E.dflt)).drop (q + l.length) ++ Za E (L.drop (i + 1)) := Z1E hi (by omega) hq;rw [h1, h2];simp
theorem Z44 {L R : List α} {o a n m : Nat} (ha : a + n ≤ L.length) (ho : o = a * E.w) (hm : m = n * E.w) (hR : (L.drop a).take n = R) : Z4 m ((Za E L).drop o) = some (Za E R) := by subst ho hm hR;rw [ZoV, Zfv, Zlk];rw [ZdK, List.length_drop];exact Nat.mul_le_mul_right _ (by omega)
theorem Zar {L M R : List α} {n m : Nat} (hm : m = n * E.w) (hn : n ≤ L.length) (hR : L.take n ++ M = R) : m ≤ (Za E L).length ∧ (Za E L).take m ++ Za E M = Za E R := by subst hm hR;refine ⟨by rw [ZdK]; exact Nat.mul_le_mul_right _ hn, ?_⟩;rw [Zlk, Zk2]
/-! ### The same, as told cells -/
theorem Znr : Z9 E [] = [] := rfl
theorem Zjp (x : α) (L : List α) : Z9 E (x :: L) = E.cel x ++ Z9 E L := rfl
theorem Zk3 : ∀ L : List α, (Z9 E L).length = L.length * E.w
 | [] => by simp [Znr]
 | x :: L => by rw [Zjp, List.length_append, Zk3 L, E.clen, List.length_cons, Nat.add_mul, Nat.one_mul, Nat.add_comm]
theorem ZoX : ∀ (i : Nat) (L : List α), (Z9 E L).drop (i * E.w) = Z9 E (L.drop i)
 | 0, L => by simp
 | i + 1, [] => by simp [Znr]
 | i + 1, x :: L => by rw [Zjp, List.drop_succ_cons, ← ZoX i L, Nat.add_mul, Nat.one_mul, Nat.add_comm, ← List.drop_drop, ← E.clen x, List.drop_left]
theorem ZvR : ∀ (i : Nat) (L : List α), (Z9 E L).take (i * E.w) = Z9 E (L.take i)
 | 0, L => by simp [Znr]
 | i + 1, [] => by simp [Znr]
 | i + 1, x :: L => by rw [Zjp, List.take_succ_cons, Zjp, ← ZvR i L, Nat.add_mul, Nat.one_mul, Nat.add_comm, List.take_append, E.clen];rw [List.take_of_length_le (by rw [E.clen]; omega), Nat.add_sub_cancel_left]
theorem Z1F {L : List α} {o i q : Nat} (hi : i < L.length) (ho : o = i * E.w + q) (hq : q ≤ E.w) : (Z9 E L).drop o = (E.cel (L.getD i E.dflt)).drop q ++ Z9 E (L.drop (i + 1)) := by subst ho;rw [← List.drop_drop, ZoX, ZoW hi E.dflt, Zjp, List.drop_append, E.clen, Nat.sub_eq_zero_of_le hq, List.drop_zero]
theorem Z45 {L : List α} {o i q m : Nat} (hi : i < L.length) (ho : o = i * E.w + q) (hq : q + m ≤ E.w) : Z4 m ((Z9 E L).drop o) = some (((E.cel (L.getD i E.dflt)).drop q).take m) := by
 have hl := E.clen (L.getD i E.dflt);rw [Z1F hi ho (by omega), Zfv _ _ (by simp only [List.length_append, List.length_drop, hl]; omega), List.take_append];have : m - ((E.cel (L.getD i E.dflt)).drop q).length = 0 := by simp only [List.length_drop, hl]; omega
 rw [this, List.take_zero, List.append_nil]
theorem Z46 {L R : List α} {o a n m : Nat} (ha : a + n ≤ L.length) (ho : o = a * E.w) (hm : m = n * E.w) (hR : (L.drop a).take n = R) : Z4 m ((Z9 E L).drop o) = some (Z9 E R) := by subst ho hm hR;rw [ZoX, Zfv, ZvR];rw [Zk3, List.length_drop];exact Nat.mul_le_mul_right _ (by omega)
theorem Z39 {L : List α} (j : Nat) (hw : 0 < E.w) : (Z9 E L)[j]? = if h : j / E.w < L.length then (E.cel (L[j / E.w]'h))[j % E.w]? else none := by
 by_cases h : j / E.w < L.length
 ·rw [dif_pos h]
  have hj : j = (j / E.w) * E.w + j % E.w := by rw [Nat.mul_comm]; exact (Nat.div_add_mod j E.w).symm
  have hr : j % E.w < E.w := Nat.mod_lt _ hw;have := Z1F (E := E) h hj (Nat.le_of_lt hr);have h0 : ((Z9 E L).drop j)[0]? = (Z9 E L)[j]? := by rw [List.getElem?_drop]; rfl
  rw [← h0, this, List.getElem?_append_left (by rw [List.length_drop, E.clen]; omega), List.getElem?_drop, Nat.add_zero];rw [List.getD_eq_getElem?_getD, List.getElem?_eq_getElem h, Option.getD_some]
 ·rw [dif_neg h, List.getElem?_eq_none]
  rw [Zk3];have : L.length ≤ j / E.w := by omega
  exact (Nat.le_div_iff_mul_le hw).1 this
/-! ### Such a row is a row of atoms -/
theorem Zjq : ∀ L : List α, Zu Ze6 (Za E L) = true
 | [] => rfl
 | x :: L => by
  have app : ∀ (a b : List Value), Zu Ze6 a = true → Zu Ze6 b = true → Zu Ze6 (a ++ b) = true := by
   intro a b ha hb
   induction a with
   | nil => exact hb
   | cons y a ih =>
    simp only [Zu, Bool.and_eq_true] at ha;show (Ze6 y && Zu Ze6 (a ++ b)) = true;rw [ha.1, ih ha.2]; rfl
  rw [ZcY];exact app _ _ (E.atoms x) (Zjq L)
theorem Zns {p q : Value → Bool} (h : ∀ v, p v = true → q v = true) : ∀ {l : List Value}, Zu p l = true → Zu q l = true
 | [], _ => rfl
 | x :: l, hl => by simp only [Zu, Bool.and_eq_true] at hl ⊢;exact ⟨h x hl.1, Zns h hl.2⟩
theorem ZiV {v : Value} (h : Ze6 v = true) : (∃ k o z, v = .pointer (some ⟨k, o, some z⟩)) ∨ (∃ k o z n c, v = .slice (some ⟨k, o, some z⟩) n c) ∨ atom v = true := by
 unfold Ze6 at h;split at h
 ·exact .inl ⟨_, _, _, rfl⟩
 ·exact .inr (.inl ⟨_, _, _, _, _, rfl⟩)
 ·exact .inr (.inr h)
theorem Zy7 (d : Nat) {v : Value} (h : Ze6 v = true) : Z3 d v = true := by
 rcases ZiV h with ⟨k, o, z, rfl⟩ | ⟨k, o, z, n, c, rfl⟩ | h
 ·cases d <;> rfl
 ·cases d <;> rfl
 ·cases v with
  | agg => simp [atom] at h
  | tuple => simp [atom] at h
  | func f a b =>
   cases f with
   | func f =>
    simp only [atom, Bool.and_eq_true, Array.isEmpty_iff] at h;obtain ⟨rfl, rfl⟩ := h;cases d <;> rfl
   | _ => simp [atom] at h
  | _ => cases d <;> rfl
theorem Z2C (m d : Nat) {v : Value} (h : Ze6 v = true) : Za8 m d v = true := by
 rcases ZiV h with ⟨k, o, z, rfl⟩ | ⟨k, o, z, n, c, rfl⟩ | h
 ·cases d <;> rfl
 ·cases d <;> rfl
 ·cases v with
  | agg => simp [atom] at h
  | tuple => simp [atom] at h
  | pointer a => cases a with
   | none => cases d <;> exact h
   | some a => simp [atom] at h
  | slice a n c => cases a with
   | none => cases d <;> exact h
   | some a => simp [atom] at h
  | map a => cases a with
   | none => cases d <;> exact h
   | some a => simp [atom] at h
  | _ => cases d <;> exact h
theorem Z2D {v : Value} (h : Ze6 v = true) : Zbg v = true := by
 rcases ZiV h with ⟨k, o, z, rfl⟩ | ⟨k, o, z, n, c, rfl⟩ | h
 ·rfl
 ·rfl
 ·cases v <;> first | rfl | simp [atom] at h
theorem Z2E {ρ : Nat → Nat} (d : Nat) {v : Value} (h : Ze6 v = true) : ZR ρ d v = v := by
 rcases ZiV h with ⟨k, o, z, rfl⟩ | ⟨k, o, z, n, c, rfl⟩ | h
 ·cases d <;> rfl
 ·cases d <;> rfl
 ·exact Zjm d h
theorem Zqi (ρ : Nat → Nat) (d : Nat) (L : List α) : (Za E L).map (ZR ρ d) = Za E L := by
 have : ∀ l : List Value, Zu Ze6 l = true → l.map (ZR ρ d) = l := fun l => by
  induction l with
  | nil => intro _; rfl
  | cons y l ih =>
   intro h;simp only [Zu, Bool.and_eq_true] at h;rw [List.map_cons, ih h.2, Z2E d h.1]
 exact this _ (Zjq L)
theorem Zre (d : Nat) (L : List α) : Zu (Z3 d) (Za E L) = true := Zns (fun _ => Zy7 d) (Zjq L)
theorem ZcZ (m d : Nat) (L : List α) : Zu (Za8 m d) (Za E L) = true := Zns (fun _ => Z2C m d) (Zjq L)
theorem Z3A (L : List α) : Zu Zbg (Za E L) = true := Zns (fun _ => Z2D) (Zjq L)
theorem ZbP (ρ : Nat → Nat) (L : List α) (t : TypeId) : ZfG ρ (.cells (Za E L) t) (.cells (Za E L) t) := ⟨rfl, ⟨[], by rw [Zqi, List.append_nil]⟩, Zre 1 L⟩
theorem Zz (ρ : Nat → Nat) {c : List Value} {L : List α} (t : TypeId) (h : c = Za E L) : ZfG ρ (.cells c t) (.cells (Za E L) t) := h ▸ ZbP ρ L t
theorem Zk4 (ρ : Nat → Nat) (L : List α) (t : TypeId) : AObj.cells (Za E L) t = ZhI ρ (.cells (Za E L) t) := by show _ = AObj.cells ((Za E L).map (ZR ρ 1)) t;rw [Zqi]
theorem Zun {L R : List α} {o a n m : Nat} (ha : a + n ≤ L.length) (ho : o = a * E.w) (hm : m = n * E.w) (hR : (L.drop a).take n = R) : Z4 m ((Za E L).drop o) = some (Za E R) ∧ Zu Zbg (Za E R) = true := ⟨Z44 ha ho hm hR, Z3A R⟩
end
theorem Z6o {b : Bool} (h : ¬ (b = true)) : (!b) = true := by cases b <;> simp_all
theorem Z6p {b : Bool} (h : b = true) : (!b) = false := by subst h; rfl
def Zcq (k : IntKind) : Enc Int := ⟨fun n => match k with | .i64 => [.i n] | k => [.k k n], 1, 0, fun _ => by cases k <;> rfl, fun _ => by cases k <;> rfl⟩
abbrev eI : Enc Int := Zcq .i64
abbrev vi (x : Int) : Value := .int .i64 x
abbrev vs (k o n c : Nat) : Value := .slice (some ⟨k, o, none⟩) n c
abbrev vp (k o : Nat) : Value := .pointer (some ⟨k, o, none⟩)
/-! ### Rows that never change -/
def mc {α : Type} (E : Enc α) (L : List α) : Cell := .m (code (Z9 E L)) 0 L.length L.length
abbrev ms {α : Type} (E : Enc α) (L : List α) : Value := .slice (some ⟨code (Z9 E L), 0, some 0⟩) L.length L.length
abbrev mp {α : Type} (E : Enc α) (L : List α) (o : Nat) : Value := .pointer (some ⟨code (Z9 E L), o, some 0⟩)
def Zp {α : Type} (E : Enc α) : Enc (List α) := ⟨fun l => [mc E l], 1, [], fun _ => rfl, fun _ => rfl⟩
theorem Z47 {α : Type} {E : Enc α} {L : List α} {o i q m : Nat} {cs : List Cell} (hi : i < L.length) (ho : o = i * E.w + q) (hq : q + m ≤ E.w) (hc : ((E.cel (L.getD i E.dflt)).drop q).take m = cs) : ZS (code (Z9 E L)) o m = some cs := by unfold ZS;rw [Zdn];show Z4 m ((Z9 E L).drop o) = some cs;rw [Z45 hi ho hq, hc]
theorem Zy8 {α : Type} {E : Enc α} {L R : List α} {o a n m : Nat} (ha : a + n ≤ L.length) (ho : o = a * E.w) (hm : m = n * E.w) (hR : (L.drop a).take n = R) : ZS (code (Z9 E L)) o m = some (Z9 E R) := by unfold ZS;rw [Zdn];exact Z46 ha ho hm hR
theorem ZhM {α : Type} {E : Enc α} (L : List α) : Za E L = Zm (Z9 E L) := by unfold Za Z9 Zm Enc.enc Zm;rw [List.map_flatMap]
theorem Znt {α : Type} {E : Enc α} {L R : List α} {l h size : Nat} (h1 : l ≤ h) (h2 : h ≤ L.length) (hs : size = E.w) (hR : R = (L.drop l).take (h - l)) :
  l ≤ h ∧ h ≤ L.length ∧ ZS (code (Z9 E L)) (0 + l * size) (Z9 E R).length = some (Z9 E R) ∧ (h - l) * size = (Z9 E R).length ∧ R.length = h - l := by
 have hl : R.length = h - l := by rw [hR, List.length_take, List.length_drop]; omega
 have hc : (Z9 E R).length = (h - l) * size := by rw [Zk3, hl, hs]
 refine ⟨h1, h2, ?_, hc.symm, hl⟩;rw [hc];exact Zy8 (a := l) (n := h - l) (by omega) (by rw [hs]; omega) (by rw [hs]) hR.symm
theorem Zc5 {α : Type} {E : Enc α} {L : List α} {n size : Nat} (hn : L.length = n) (hs : size = E.w) (h0 : n * size ≠ 0) :
  (n * size = 0 ∧ Za E L = []) ∨ ∃ c, n * size ≠ 0 ∧ ZS (code (Z9 E L)) 0 (n * size) = some c ∧ Za E L = Zm c := by
 subst hn hs;exact .inr ⟨_, h0, Zy8 (a := 0) (n := L.length) (by omega) (by omega) rfl (by simp), ZhM L⟩
theorem Zwn {α : Type} {E : Enc α} {L : List α} {n m : Nat} {cs : List Cell} (hn : L.length = n) (hm : m = n * E.w) (hs : Ze5 cs = true) (hc : Za E ((List.range n).map fun i => L.getD i E.dflt) = Zm cs) : ZdQ (Z4 m (List.drop 0 (Za E L))) cs = true := by
 have e : (List.range n).map (fun i => L.getD i E.dflt) = L := by
  apply List.ext_getElem?;intro i;by_cases hi : i < n
  ·rw [List.getElem?_map, List.getElem?_range hi, Option.map_some, List.getD_eq_getElem?_getD, List.getElem?_eq_getElem (by omega), Option.getD_some]
  ·rw [List.getElem?_eq_none (by simp; omega), List.getElem?_eq_none (by omega)]
 rw [e] at hc;rw [List.drop_zero, Zfv _ _ (by rw [ZdK, hn, hm]; exact Nat.le_refl _), List.take_of_length_le (by rw [ZdK, hn, hm]; exact Nat.le_refl _), hc];exact Zdr hs
/-! ### Bytes as strings -/
end
end Ev
end Go.Proofs.YthfohmhipifiaaaGreat
namespace Go.Proofs.YthfohmhipifiaaaGreat
open Go.ChangeShapes Go.WideShapes Go.ChangeAt Go.RowKit Go.Deep
namespace Ev
section
variable {H : Type} {enc : TypeId × Value → H} {P : Program} {w : World}
def Trd (enc : TypeId × Value → H) (P : Program) (w : World) (t : TypeId) (cs : List Value) : Prop := ∃ n y, DataW.trod enc P w 0 (fun _ => true) true n t cs = some y
def Elems (enc : TypeId × Value → H) (P : Program) (w : World) (e : TypeId) (O : Obj) (o cap : Nat) : Prop :=
 ∀ i, i < cap → ∃ C t fr cs, O = .cells C t fr ∧ cs.length = P.cellsOf e ∧ (∀ j, j < P.cellsOf e → C[o + (i * P.cellsOf e + j)]? = cs[j]?) ∧ Trd enc P w e cs
theorem Z3B {t : TypeId} {fs : Array Field} {cs : List Value} (ht : P.underlying t = some (.struct fs)) (h : Trd enc P w t cs) (i : Nat) {f : Field} (hf : fs[i]? = some f) : Trd enc P w f.type ((cs.drop f.offset).take (P.cellsOf f.type)) := by obtain ⟨n, y, h⟩ := h;obtain ⟨xs, n', _, _, _, hxl, hfl⟩ := DataW.trod_struct ht h;have hi : i < fs.size := (Array.getElem?_eq_some_iff.1 hf).1;have := hfl i f hf;rw [List.getElem?_eq_getElem (show i < xs.length by omega)] at this;exact ⟨n', _, this⟩
theorem Z5E {t : TypeId} {k : IntKind} {cs : List Value} (ht : P.underlying t = some (.int k)) (h : Trd enc P w t cs) : ∃ z, cs = [.int k z] ∧ k.min ≤ z ∧ z ≤ k.max := by obtain ⟨n, y, h⟩ := h;obtain ⟨z, e0, _, wx⟩ := DataW.trod_int ht h;simp only [Lit.wf, Bool.and_eq_true, decide_eq_true_eq] at wx;exact ⟨z, e0, wx.1, wx.2⟩
theorem Z3C {t e : TypeId} {cs : List Value} (ht : P.underlying t = some (.slice e)) (hpos : 0 < P.cellsOf e) (h : Trd enc P w t cs) :
  (∃ a, cs = [.slice a 0 0]) ∨ ∃ (b o len cap : Nat) (O : Obj), cs = [.slice (some ⟨b, o, none⟩) len cap] ∧ 0 < cap ∧ len ≤ cap ∧ cap ≤ 9223372036854775807 ∧ w.heap[b]? = some O ∧ Elems enc P w e O o cap := by
 obtain ⟨n0, y, h⟩ := h;rcases open_slice ht h with ⟨hcs, _⟩ | ⟨a, len, cap, m, n, D, Pl, hcs, hb, hl, hm, hmm, hx, hi⟩
 ·exact .inl ⟨_, hcs⟩
 ·simp only [if_true] at hmm
  subst hmm;rcases Nat.eq_zero_or_pos m with h0 | h0
  ·subst h0
   obtain rfl : len = 0 := by omega
   exact .inl ⟨_, hcs⟩
  ·right
   obtain ⟨cs0, hc0, _⟩ := hi 0 h0;obtain ⟨_, hcl0, hat0⟩ := World.cells?_some hc0;have h1 := hat0 0 hpos;rw [Nat.zero_mul] at h1;have ha0 : (a.add 0).add 0 = a := by simp [Addr.add]
   rw [ha0] at h1;have h2 : w.cell? a = some (cs0[0]'(by omega)) := h1.trans (List.getElem?_eq_getElem (by omega));obtain ⟨b, o, spot⟩ := a;have hspot : spot = none := by
    unfold World.cell? at h2;split at h2
    ·cases spot with
     | none => rfl
     | some z => simp at h2
    ·cases h2
   subst hspot;obtain ⟨C, el, fr, hB, _⟩ := ZnJ h2;refine ⟨b, o, len, m, _, hcs, h0, hl, by unfold maxLen at hm; omega, hB, fun i hi' => ?_⟩;obtain ⟨cs', hc, ht'⟩ := hi i hi';obtain ⟨_, hcl, hat⟩ := World.cells?_some hc;refine ⟨C, el, fr, cs', rfl, hcl, fun j hj => ?_, n, _, ht'⟩;have h1 := hat j hj;rw [Go.Deep.add_add] at h1;have h2 : w.cell? ⟨b, o + (i * P.cellsOf e + j), none⟩ = some (cs'[j]'(by omega)) := by have : (⟨b, o, none⟩ : Addr).add (i * P.cellsOf e + j) = ⟨b, o + (i * P.cellsOf e + j), none⟩ := Go.WideShapes.add_plain b o _;rw [← this, h1];exact List.getElem?_eq_getElem (by omega)
   obtain ⟨C', t', fr', hB', hv'⟩ := ZnJ h2;rw [hB] at hB';injection hB' with hB'
   injection hB' with e1 e2 e3;subst e1
   rw [hv'];exact (List.getElem?_eq_getElem (by omega)).symm
def DecL (w : World) (cs : List Value) (l : List Cell) : Prop := cs.length = l.length ∧ ∀ (i : Nat) x y, l[i]? = some x → cs[i]? = some y → DecC w x y
theorem Zuo {w : World} {cs : List Value} {l : List Cell} (hl : cs.length = l.length) (h : ∀ (i : Nat) x, l[i]? = some x → ∃ y, cs[i]? = some y ∧ DecC w x y) : DecL w cs l :=
 ⟨hl, fun i x y hx hy => by
  obtain ⟨y', h1, h2⟩ := h i x hx;rw [hy] at h1;injection h1 with h1
  subst h1;exact h2⟩
theorem Zy9 {w : World} {cs : List Value} {k : Nat} : ∀ (j : Nat) x, ([] : List Cell)[j]? = some x → ∃ y, cs[k + j]? = some y ∧ DecC w x y := fun j x h => by simp at h
theorem ZiB {w : World} {cs : List Value} {b : Cell} {l : List Cell} {k : Nat} {y : Value} (hx : cs[k]? = some y) (hd : DecC w b y) (t : ∀ (j : Nat) x, l[j]? = some x → ∃ y, cs[k + 1 + j]? = some y ∧ DecC w x y) :
  ∀ (j : Nat) x, (b :: l)[j]? = some x → ∃ y, cs[k + j]? = some y ∧ DecC w x y := fun j x h => by
 cases j with
 | zero => injection h with h; subst h; exact ⟨y, hx, hd⟩
 | succ j =>
  obtain ⟨y', h1, h2⟩ := t j x (by simpa using h);exact ⟨y', by rw [show k + (j + 1) = k + 1 + j by omega]; exact h1, h2⟩
theorem DecL.vr {w : World} {cs : List Value} {l : List Cell} (h : DecL w cs l) : VRs (ιMk w) (Zm l).toArray cs.toArray :=
 ⟨by simp [Zm, h.1], fun i x y hx hy => by
  have hx' : (Zm l)[i]? = some x := by simpa using hx
  have hy' : cs[i]? = some y := by simpa using hy
  unfold Zm at hx';rw [List.getElem?_map] at hx';cases hb : l[i]? with
  | none => rw [hb] at hx'; cases hx'
  | some z =>
   rw [hb] at hx';injection hx' with hx'
   subst hx';exact (h.2 i z y hb hy').vr⟩
theorem pick1 {α : Type} {n : Nat} (d : α) {R : Nat → α → Prop} (h : ∀ i, i < n → ∃ x, R i x) : ∃ f : Nat → α, ∀ i, i < n → R i (f i) := by
 classical
 refine ⟨fun i => if hi : i < n then (h i hi).choose else d, fun i hi => ?_⟩;simp only [hi, dite_true];exact (h i hi).choose_spec
theorem ZoY {α : Type} {E : Enc α} {Q : α → Prop} {t e : TypeId} {cs : List Value} (ht : P.underlying t = some (.slice e)) (hw : P.cellsOf e = E.w) (hpos : 0 < E.w)
  (hel : ∀ cs, cs.length = E.w → Trd enc P w e cs → ∃ x : α, DecL w cs (E.cel x) ∧ Q x) (h : Trd enc P w t cs) : ∃ (L : List α) (v : Value), cs = [v] ∧ DecC w (mc E L) v ∧ L.length ≤ 9223372036854775807 ∧ ∀ x ∈ L, Q x := by
 rcases Z3C ht (by omega) h with ⟨a, rfl⟩ | ⟨b, o, len, cap, O, rfl, h0, hl, hm, hB, hE⟩
 ·exact ⟨[], _, rfl, .m0, by simp, fun x hx => by cases hx⟩
 ·have each : ∀ i, i < len → ∃ x : α, (∃ C t fr, O = .cells C t fr ∧ ∀ j y, (E.cel x)[j]? = some y → ∃ v, C[o + (i * E.w + j)]? = some v ∧ DecC w y v) ∧ Q x := fun i hi => by
   obtain ⟨C, t, fr, cs, hO, hcl, hc, htr⟩ := hE i (by omega);obtain ⟨x, hd, hq⟩ := hel cs (by omega) htr;refine ⟨x, ⟨C, t, fr, hO, fun j y hy => ?_⟩, hq⟩;have hj : j < cs.length := by rw [hd.1]; exact (List.getElem?_eq_some_iff.1 hy).1
   rw [← hw];refine ⟨cs[j], ?_, hd.2 j y _ hy (List.getElem?_eq_getElem hj)⟩;rw [hc j (by omega)];exact List.getElem?_eq_getElem hj
  obtain ⟨G, hG⟩ := pick1 E.dflt each;obtain ⟨C, t, fr, cs0, hO, _⟩ := hE 0 h0;subst hO;refine ⟨(List.range len).map G, _, rfl, ?_, by simp; omega, fun x hx => ?_⟩
  ·have hlen : ((List.range len).map G).length = len := by simp
   unfold mc;rw [hlen];refine .m (base := o) (.mk (Zdn _) hB (fun hp => ?_) fun i x y hx hy => ?_) (Nat.le_refl _) hl
   ·rw [Zk3, hlen] at hp ⊢
    have hlen0 : 0 < len := by
     rcases Nat.eq_zero_or_pos len with e0 | e0
     ·subst e0; simp at hp
     ·exact e0
    obtain ⟨⟨C', t', fr', hO', hx'⟩, _⟩ := hG (len - 1) (by omega);injection hO' with e1 e2 e3
    subst e1;have hw1 : (E.cel (G (len - 1))).length = E.w := E.clen _;obtain ⟨v, hv, _⟩ := hx' (E.w - 1) _ (List.getElem?_eq_getElem (by omega));have := (Array.getElem?_eq_some_iff.1 hv).1;have e2 : (len - 1) * E.w + E.w = len * E.w := by rw [← Nat.succ_mul]; congr 1; omega
    omega
   ·rw [Z39 i hpos] at hx
    split at hx
    ·rename_i hlt
     rw [List.getElem_map, List.getElem_range] at hx;obtain ⟨⟨C', t', fr', hO', hx'⟩, _⟩ := hG (i / E.w) (by rw [hlen] at hlt; exact hlt);injection hO' with e1 e2 e3
     subst e1;obtain ⟨v, hv, hd⟩ := hx' (i % E.w) x hx;have e : i / E.w * E.w + i % E.w = i := by rw [Nat.mul_comm]; exact Nat.div_add_mod i E.w
     rw [e, hy] at hv;injection hv with hv
     subst hv;exact hd
    ·cases hx
  ·obtain ⟨i, hi, rfl⟩ := List.mem_map.1 hx
   exact (hG i (List.mem_range.1 hi)).2
theorem Z0B {cs : List Value} {j m : Nat} {v : Value} (h : (cs.drop j).take m = [v]) (hm : m = 1) : cs[j]? = some v := by
 subst hm;have : ((cs.drop j).take 1)[0]? = some v := by rw [h]; rfl
 rwa [List.getElem?_take_of_lt (by decide), List.getElem?_drop, Nat.add_zero] at this
/-! ### Parts of a value, by where they lie among its cells -/
def Zll (enc : TypeId × Value → H) (P : Program) (w : World) (t : TypeId) (cs : List Value) (o : Nat) : Prop := Trd enc P w t ((cs.drop o).take (P.cellsOf t))
theorem ZyA {t : TypeId} {cs : List Value} {c : Nat} (hc : P.cellsOf t = c) (hl : cs.length = c) (h : Trd enc P w t cs) : Zll enc P w t cs 0 := by unfold Zll;rw [List.drop_zero, List.take_of_length_le (by omega)];exact h
theorem Z48 {cs : List Value} {o m a k : Nat} (h : a + k ≤ m) : (((cs.drop o).take m).drop a).take k = (cs.drop (o + a)).take k := by rw [List.drop_take, List.take_take, List.drop_drop, Nat.min_eq_left (by omega)]
theorem Zk5 {t te : TypeId} {fs : Array Field} {cs : List Value} {o o' : Nat} (fo c ct : Nat) (ht : P.underlying t = some (.struct fs)) (h : Zll enc P w t cs o) (i : Nat) (hf : (fs[i]?).map (fun f => (f.type, f.offset)) = some (te, fo)) (ho : o' = o + fo) (hc : P.cellsOf te = c) (hct : P.cellsOf t = ct) (hle : fo + c ≤ ct) : Zll enc P w te cs o' := by
 cases hx : fs[i]? with
 | none => rw [hx] at hf; cases hf
 | some f =>
  rw [hx] at hf;injection hf with hf
  injection hf with h1 h2;subst h1 h2 ho
  have := Z3B ht h i hx;rw [Z48 (by omega)] at this;exact this
theorem ZyB {cs : List Value} {o : Nat} {v : Value} (h : (cs.drop o).take 1 = [v]) : cs[o]? = some v := Z0B h rfl
theorem Zmq {t : TypeId} {k : IntKind} {cs : List Value} {o : Nat} (ht : P.underlying t = some (.int k)) (hc : P.cellsOf t = 1) (h : Zll enc P w t cs o) : ∃ z, cs[o]? = some (.int k z) ∧ k.min ≤ z ∧ z ≤ k.max := by unfold Zll at h;rw [hc] at h;obtain ⟨z, h1, h2⟩ := Z5E ht h;exact ⟨z, ZyB h1, h2⟩
theorem Z49 {α : Type} {E : Enc α} {Q : α → Prop} {t e : TypeId} {cs : List Value} {o : Nat} (ht : P.underlying t = some (.slice e)) (hc : P.cellsOf t = 1) (hw : P.cellsOf e = E.w) (hpos : 0 < E.w)
  (hel : ∀ cs, cs.length = E.w → Trd enc P w e cs → ∃ x : α, DecL w cs (E.cel x) ∧ Q x) (h : Zll enc P w t cs o) : ∃ (L : List α) (v : Value), cs[o]? = some v ∧ DecC w (mc E L) v ∧ L.length ≤ 9223372036854775807 ∧ ∀ x ∈ L, Q x := by
 unfold Zll at h;rw [hc] at h;obtain ⟨L, v, h1, h2⟩ := ZoY ht hw hpos hel h;exact ⟨L, v, ZyB h1, h2⟩
theorem Z1G {t : TypeId} {v : Value} {d : DataW H} {p : List MemPlace} (h : DataW.Trod enc P w 0 (fun _ => true) true t v d p) : Trd enc P w t v.cells.toList := by obtain ⟨fuel, hf⟩ := h;exact ⟨fuel, _, hf⟩
end
end Ev
end Go.Proofs.YthfohmhipifiaaaGreat
namespace Go.Proofs.YthfohmhipifiaaaGreat
open Go.RowKit
namespace Ev
section
variable {P : Program} {ext : FuncId → Option Ext} {pre : List AObj} {A : Array Value} {R : Type} {V : R → Value} {Po : R → List (Option AObj)} {live : List Nat} {bl : List (Option AObj)} {ob : List (Bool × Bool)} {fu : Nat} {orc : Orc}
variable {f : FuncId}
end
section
variable {P : Program}
end
section
variable {P : Program} {ext : FuncId → Option Ext} {f : FuncId} {pre : List AObj} {A : Array Value} {R : Type} {V : R → Value} {Po : R → List (Option AObj)} {live : List Nat} {bl : List (Option AObj)} {ob : List (Bool × Bool)} {orc : Orc}
end
section
variable {P : Program}
theorem VR.cutV {ι ι2 : Ren} {m : Nat} (hι : ∀ k b, k < m ∨ Zc7 k → ι k = some b → ι2 k = some b) : ∀ (d : Nat) (v v' : Value), VR ι v v' → Za8 m d v = true → VR ι2 v v'
 | d, v, v', h, hd => by
  cases h with
  | atom h => exact .atom h
  | glob h => exact .glob h
  | ptr h => cases d <;> exact .ptr (hι _ _ (.inl (Nat.le_of_ble_eq_true hd)) h)
  | map h => cases d <;> exact .map (hι _ _ (.inl (Nat.le_of_ble_eq_true hd)) h)
  | slice h hn hc hq => cases d <;> exact .slice (hι _ _ (.inl (Nat.le_of_ble_eq_true hd)) h) hn hc hq
  | slice0 h => exact .slice0 h
  | mptr h => exact .mptr (hι _ _ (.inr (Zke _ _ _)) h)
  | mslice h hn hc => exact .mslice (hι _ _ (.inr (Zke _ _ _)) h) hn hc
  | func hs ht h1 h2 =>
   rename_i fn a a' b b';have ha : Ev.atom (.func fn a b) = true := by cases d <;> exact hd
   have e := VR.eq_of_atom ha (.func hs ht h1 h2);rw [e];exact .atom ha
  | agg hs h1 =>
   cases d with
   | zero => simp [Za8, Ev.atom] at hd
   | succ d =>
    simp only [Za8] at hd;exact .agg hs fun i x y hx hy => VR.cutV hι d x y (h1 i x y hx hy) (Zbi hd i x hx)
  | tuple hs h1 =>
   cases d with
   | zero => simp [Za8, Ev.atom] at hd
   | succ d =>
    simp only [Za8] at hd;exact .tuple hs fun i x y hx hy => VR.cutV hι d x y (h1 i x y hx hy) (Zbi hd i x hx)
def Zlm (m : Nat) : List (Option AObj) → Prop
 | [] => True
 | o :: l => (match o with | some x => Zjn m x = true | none => True) ∧ Zlm m l
theorem ZsZ {m : Nat} : ∀ {H : List (Option AObj)}, Zlm m H → ∀ k o, lkO H k = some o → Zjn m o = true
 | [], _, k, o, hk => by simp [lkO] at hk
 | x :: H, h, 0, o, hk => by
  have e : x = some o := by simpa [lkO] using hk
  subst e;exact h.1
 | x :: H, h, k + 1, o, hk => ZsZ h.2 k o (by simpa [lkO] using hk)
noncomputable def ιTv (ι : Ren) (m : Nat) : Ren := fun k => @ite _ (k < m ∨ Zc7 k) (Classical.propDecidable _) (ι k) none
theorem ιTv_yes {ι : Ren} {m k : Nat} (h : k < m ∨ Zc7 k) : ιTv ι m k = ι k := by unfold ιTv; rw [if_pos h]
theorem ιTv_inv {ι : Ren} {m k : Nat} {q : Nat × Nat} (h : ιTv ι m k = some q) : (k < m ∨ Zc7 k) ∧ ι k = some q := by
 by_cases hk : k < m ∨ Zc7 k
 ·rw [ιTv_yes hk] at h; exact ⟨hk, h⟩
 ·unfold ιTv at h
  rw [if_neg hk] at h; cases h
theorem Z3D {post : List (Option AObj)} {k : Nat} {o : AObj} (h : lkO post k = some o) : k < post.length := by
 unfold lkO at h;cases hx : post[k]? with
 | none => rw [hx] at h; cases h
 | some y => exact (List.getElem?_eq_some_iff.1 hx).1
theorem Step.letgo {ι ι' : Ren} {w w' : World} {pre : List AObj} {post : List (Option AObj)} (hd : ∀ k, ι k ≠ none → k < pre.length ∨ Zc7 k) (hpre : pre.length ≤ post.length) (hUA : Zlm post.length post) (hS : Step P ι (lk pre) w ι' (lkO post) w') : Step P ι (lk pre) w (ιTv ι' post.length) (lkO post) w' := by
 have hι : ∀ k b, k < post.length ∨ Zc7 k → ι' k = some b → (ιTv ι' post.length) k = some b := fun k b hk h => (ιTv_yes hk).trans h;have hmk : ∀ b base id q, ι' (ZO b base id) = some q → (ιTv ι' post.length) (ZO b base id) = some q := fun b base id q h => hι _ _ (.inr (Zke _ _ _)) h;refine ⟨fun k b hb' => hι k b ((hd k (by rw [hb']; simp)).imp (fun q => by omega) id) (hS.ext k b hb'), ⟨fun k c' t' q' hk => ?_, fun {m} k O hk => ?_, fun k k' b b' h1 h2 h3 h4 h5 => hS.emb.inj k k' b b' h1 h2 (ιTv_inv h3).2 (ιTv_inv h4).2 h5, fun k b h => hS.emb.lt k b (ιTv_inv h).2, fun b base id q hq => ?_, fun x hx => (hS.emb.tb x hx).imp fun q hq => hmk _ _ _ _ hq⟩, hS.os, hS.tape, hS.output, hS.size, hS.frame, fun k b h1 h2 h3 => hS.new k b h1 (ιTv_inv h2).2 h3, hS.alive, hS.kind⟩
 ·obtain ⟨b, r1, hz⟩ := hS.emb.obj k c' t' q' hk
  have hcs : Zu (Za8 post.length 1) c' = true := ZsZ hUA k (.cells c' t' q') hk;exact ⟨b, hι k b (.inl (Z3D hk)) r1, hz.imp id fun ⟨q0, D, r2, r3, r4⟩ => ⟨q0, D, r2, ⟨r3.1, fun i x y hx hy => VR.cutV hι 1 x y (r3.2 i x y hx hy) (Zaf hcs x (List.mem_of_getElem? hx))⟩, r4⟩⟩
 ·obtain ⟨b, r1, r2⟩ := hS.emb.ro k O hk
  exact ⟨b, hι k b (.inl (Z3D hk)) r1, r2⟩
 ·obtain ⟨m1, m2, m3⟩ := hS.emb.mks b base id q (ιTv_inv hq).2
  exact ⟨m1, ⟨m2.1.on hmk, fun o c' hc => hmk _ _ _ _ (m2.2 o c' hc)⟩, fun k d hk hd2 => m3 k d hk (ιTv_inv hd2).2⟩
theorem Z4A {post : List (Option AObj)} {o : AObj} : lkO (post ++ [some o]) post.length = some o := by simp [lkO]
theorem Z4B {post : List (Option AObj)} {o : AObj} : upd (lkO (post ++ [some o])) post.length none = lkO post := by
 funext k
 by_cases hk : k = post.length
 ·subst hk
  rw [Zk];simp [lkO]
 ·rw [Zf hk]
  unfold lkO;rcases Nat.lt_or_ge k post.length with h | h
  ·rw [List.getElem?_append_left h]
  ·rw [List.getElem?_eq_none (by simp; omega), List.getElem?_eq_none h]
theorem Zfn {p : Option Addr} {n n' c c' : Nat} (h2 : n = n') (h3 : c = c') : Value.slice p n c = .slice p n' c' := by rw [h2, h3]
theorem LSpec.frzv {α : Type} {E : Enc α} {L : List α} {f : FuncId} {A : Array Value} {pre : List AObj} {v v2 : Value} {post : List (Option AObj)} {t : TypeId} (h : LSpec P f A pre v (post ++ [some (.cells (Za E L) t)])) (hpre : pre.length ≤ post.length) (hle : post.length < 1000000000) (hUA : Zlm post.length post) (hz : Zc4 v = false)
  (h2 : Zo0 post.length (code (Z9 E L)) 3 v = v2) (hu : Za8 post.length 3 v2 = true) : LSpec P f A pre v2 post := by
 subst h2;intro ι w args' hd ha he;refine (h ι w args' hd ha he).mono fun e w' hf => ?_;rcases hf with ⟨v', ι', rfl, hS, hdm, hvr⟩ | ⟨hz', _⟩
 rotate_left
 ·rw [hz] at hz'; cases hz'
 rw [ZhM] at hS;obtain ⟨ι2, g1, g2, g3⟩ := Step.frz hS.emb Z4A;rw [Z4B] at g1;have hT := Step.letgo hd hpre hUA (hS.trans g1);refine .inl ⟨v', _, rfl, hT, fun k hk => ?_, VR.cutV (fun k b hk h => (ιTv_yes hk).trans h) 3 _ _ (Zug g1.ext g2 3 hvr) hu⟩;cases hq : ιTv ι2 post.length k with
 | none => exact absurd hq hk
 | some q => exact (ιTv_inv hq).1.imp id fun h => h.1
theorem LSpec.nlv {f : FuncId} {A : Array Value} {pre : List AObj} {v v2 : Value} {post : List (Option AObj)} (h : LSpec P f A pre v post) (hz : Zc4 v = false) (h2 : nlV 3 v = v2) : LSpec P f A pre v2 post := by
 subst h2;intro ι w args' hd ha he;refine (h ι w args' hd ha he).mono fun e w' hf => ?_;rcases hf with ⟨v', ι', rfl, hS, hdm, hvr⟩ | ⟨hz', _⟩
 ·exact .inl ⟨v', ι', rfl, hS, hdm, ZxV 3 hvr⟩
 ·rw [hz] at hz'; cases hz'
end
section
variable {α : Type} {E : Enc α}
theorem Z3E (ρ : Nat → Nat) (L : List α) (t : TypeId) : ZfG ρ (.cells (Za E L) t true) (.cells (Za E L) t true) := ⟨rfl, by rw [Zqi], Zre 1 L⟩
theorem ZvS (ρ : Nat → Nat) (L : List α) (t : TypeId) : AObj.cells (Za E L) t true = ZhI ρ (.cells (Za E L) t true) := by show _ = AObj.cells ((Za E L).map (ZR ρ 1)) t true;rw [Zqi]
theorem ZrD {c c' : List Value} {t : TypeId} (h : WkC c c') : WkO (some (.cells c t)) (some (.cells c' t)) := .inr (.inl ⟨_, _, _, _, rfl, rfl, h⟩)
end
end Ev
end Go.Proofs.YthfohmhipifiaaaGreat
/- The heap's cells and rows, Za8 names. -/
namespace Go.Proofs.YthfohmhipifiaaaGreat
open Go.RowKit
namespace Ev
noncomputable section
def nth : List Nat → Nat → Nat
 | [], _ => 0
 | a :: _, 0 => a
 | _ :: l, j + 1 => nth l j
end
end Ev
end Go.Proofs.YthfohmhipifiaaaGreat
namespace Go.Proofs.YthfohmhipifiaaaGreat
open Go.RowKit
namespace Ev
def rg : Nat → Nat → List Nat → List Nat
 | _, 0, l => l
 | a, n + 1, l => a :: rg (a + 1) n l
def oq : List Nat → List (Nat × Bool)
 | [] => []
 | a :: l => (a / 2, Nat.beq (a % 2) 1) :: oq l
inductive Oq where
 | o
 | b (g : Nat) (t : Bool) (ω : Oq)
 | v (g : Nat) (t : Int) (ω : Oq)
 | x (g t : Nat) (ω : Oq)
 | l (g : Nat) (t : List Cell) (ω : Oq)
 | w (g : Nat) (t : Told) (ω : Oq)
def gap {α : Type} : Nat → List (Option α) → List (Option α)
 | 0, l => l
 | n + 1, l => none :: gap n l
def Oq.go : Oq → List (Option Bool) → List (Option Int) → List (Option Nat) → List (Option (List Cell)) → List (Option Told) → Orc
 | .o, B, V, X, L, W => ⟨B, V, X, L, W⟩
 | .b g t ω, B, V, X, L, W => ω.go (gap g (some t :: B)) V X L W
 | .v g t ω, B, V, X, L, W => ω.go B (gap g (some t :: V)) X L W
 | .x g t ω, B, V, X, L, W => ω.go B V (gap g (some t :: X)) L W
 | .l g t ω, B, V, X, L, W => ω.go B V X (gap g (some t :: L)) W
 | .w g t ω, B, V, X, L, W => ω.go B V X L (gap g (some t :: W))
def Oq.t (ω : Oq) : Orc := ω.go [] [] [] [] []
def Ob (ω : Oq) (l : List (Bool × Bool)) : Prop := ∀ q ∈ l, q.1 = q.2
theorem Zg : Ob .o [] := Zkf
section
variable {ω : Oq} {l : List (Bool × Bool)}
section
variable (g : Nat)
theorem tB {t b : Bool} (h : Ob ω ((t, b) :: l)) : Ob (.b g b ω) ((t, b) :: l) := h
theorem tV {x y : Int} (h : Ob ω ((x == y, true) :: l)) : Ob (.v g y ω) ((x == y, true) :: l) := h
theorem tL (c : List Cell) (h : Ob ω l) : Ob (.l g c ω) l := h
theorem tW (t : Told) (h : Ob ω l) : Ob (.w g t ω) l := h
end
end
section
variable {ω : Oq} {l : List (Bool × Bool)}
theorem kX (t b : Bool) (h : t = b) (hl : Ob ω l) : Ob ω ((t, b) :: l) := ZF h hl
theorem hT {a b : Int} (h : a = b) (hl : Ob ω l) : Ob ω ((a == b, true) :: l) := ZF (beq_iff_eq.2 h) hl
theorem hF {a b : Int} (h : ¬ a = b) (hl : Ob ω l) : Ob ω ((a == b, false) :: l) := ZF (beq_eq_false_iff_ne.2 h) hl
theorem hD {a b : Int} (h : ¬ a = b) (hl : Ob ω l) : Ob ω ((a != b, true) :: l) := ZF (bne_iff_ne.2 h) hl
theorem hE {a b : Int} (h : a = b) (hl : Ob ω l) : Ob ω ((a != b, false) :: l) := ZF (bne_eq_false_iff_eq.2 h) hl
theorem hY {p : Prop} [Decidable p] (h : p) (hl : Ob ω l) : Ob ω ((decide p, true) :: l) := ZF (decide_eq_true h) hl
theorem hN {p : Prop} [Decidable p] (h : ¬ p) (hl : Ob ω l) : Ob ω ((decide p, false) :: l) := ZF (decide_eq_false h) hl
section
variable (a b : Int)
theorem kF (hl : Ob ω l) (h : ¬ a = b := by omega) : Ob ω ((a == b, false) :: l) := hF h hl
theorem kE (hl : Ob ω l) (h : a = b := by omega) : Ob ω ((a != b, false) :: l) := hE h hl
theorem kY (p : Prop) [Decidable p] (hl : Ob ω l) (h : p := by omega) : Ob ω ((decide p, true) :: l) := hY h hl
theorem kN (p : Prop) [Decidable p] (hl : Ob ω l) (h : ¬ p := by omega) : Ob ω ((decide p, false) :: l) := hN h hl
theorem kR {α : Type} (a : α) (hl : Ob ω l) : Ob ω ((dP (a = a), true) :: l) := ZF (Zn rfl) hl
theorem kC {p : Prop} (h : p) (hl : Ob ω l) : Ob ω ((dP p, true) :: l) := ZF (Zn h) hl
theorem kB (a b : Nat) (hl : Ob ω l) (h : a < b := by first | omega | (simp only [List.length_set, List.length_append, List.length_cons, List.length_nil, List.length_replicate, List.length_take, List.length_drop] at * <;> omega)) : Ob ω ((Nat.blt a b, true) :: l) := ZF (Z6l h) hl
theorem kI (hl : Ob ω l) (h : a = b := by first | rfl | exact Zyv (by omega)) : Ob ω ((a == b, true) :: l) := hT h hl
theorem kJ (a : Int) (n : Nat) (hl : Ob ω l) (h : a = (n : Int) := by omega) : Ob ω ((a == Int.ofNat n, true) :: l) := hT h hl
theorem kM (hl : Ob ω l) (h : 0 ≤ a := by omega) : Ob ω ((Int.tmod a b == a % b, true) :: l) := hT (Z41 h) hl
theorem kV (hl : Ob ω l) (h : 0 ≤ a := by omega) (h' : -9223372036854775808 ≤ a / b ∧ a / b ≤ 9223372036854775807 := by omega) : Ob ω ((IntKind.i64.wrap (Int.tdiv a b) == a / b, true) :: l) := hT (by rw [Z42 h]; exact wrap_i64 h') hl
theorem kW (hl : Ob ω l) (h : -9223372036854775808 ≤ a ∧ a ≤ 9223372036854775807 := by first | omega | (simp only [List.length_set, List.length_append, List.length_cons, List.length_nil, List.length_replicate, List.length_take, List.length_drop] at * <;> omega)) (h' : a = b := by first | rfl | omega) : Ob ω ((IntKind.i64.wrap a == b, true) :: l) := hT ((wrap_i64 h).trans h') hl
end
theorem kZ (t : Bool) (hl : Ob ω l) (h : t = true := by first | (simp only [beq_self_eq_true, Bool.and_self]; done) | (simp only [Bool.and_true, Bool.and_eq_true, beq_iff_eq] <;> first | omega | (simp_all; done) | grind)) : Ob ω ((t, true) :: l) := ZF h hl
theorem kO (t : Bool) (hl : Ob ω l) (h : t = false := by exact Bool.eq_false_iff.2 (by simp only [ne_eq, Bool.and_true, Bool.and_eq_true, beq_iff_eq]; first | omega | (intro hh; simp_all; done) | (intro hh; grind))) : Ob ω ((t, false) :: l) := ZF h hl
theorem kS (b : Int) (n : Nat) (k : IntKind) (hl : Ob ω l) (h : b = Int.ofNat n := by first | rfl | exact Zyv (by omega)) (h' : n ≤ IntKind.bits k := by (show _ ≤ 64); omega) : Ob ω ((dP (b = Int.ofNat n ∧ n ≤ IntKind.bits k), true) :: l) := kC ⟨h, h'⟩ hl
section
variable {α : Type} (E : Enc α) (L : List α)
theorem ZyC {L : List α} {o i q m : Nat} (hi : i < L.length) (ho : o = i * E.w + q) (hq : q + m ≤ E.w) : ZdQ (Z4 m ((Za E L).drop o)) (((E.cel (L.getD i E.dflt)).drop q).take m) = true := by
 rw [Zy6 hi ho hq];have e : ((E.enc (L.getD i E.dflt)).drop q).take m = Zm (((E.cel (L.getD i E.dflt)).drop q).take m) := by unfold Enc.enc Zm; rw [List.map_take, List.map_drop]
 rw [e];refine Zdr ?_;have hs := E.sure (L.getD i E.dflt);have h1 : ∀ (cs : List Cell) (n : Nat), Ze5 cs = true → Ze5 (cs.drop n) = true := fun cs => by
  induction cs with
  | nil => intro n _; simp [Ze5]
  | cons c cs ih =>
   intro n h;cases n with
   | zero => exact h
   | succ n => rw [List.drop_succ_cons]; exact ih n (by cases c <;> first | cases h; done | exact h)
 have h2 : ∀ (cs : List Cell) (n : Nat), Ze5 cs = true → Ze5 (cs.take n) = true := fun cs => by
  induction cs with
  | nil => intro n _; simp [Ze5]
  | cons c cs ih =>
   intro n h;cases n with
   | zero => rfl
   | succ n =>
    rw [List.take_succ_cons];cases c with
    | any => cases h
    | _ => exact ih n h
 exact h2 _ _ (h1 _ _ hs)
theorem kL (i q m : Nat) (hl : Ob ω l) (h : i < L.length := by first | omega | (simp only [List.length_set, List.length_append, List.length_cons, List.length_nil, List.length_replicate, List.length_take, List.length_drop] at * <;> omega)) (hq : q + m ≤ E.w := by decide) : Ob ω ((ZdQ (Z4 m (List.drop ((0 + (i * E.w)) + q) (Za E L))) (((E.cel (L.getD i E.dflt)).drop q).take m), true) :: l) := ZF (ZyC E h (by omega) hq) hl
theorem kLn (i q m : Nat) (hl : Ob ω l) (h : i < L.length := by first | omega | (simp only [List.length_set, List.length_append, List.length_cons, List.length_nil, List.length_replicate, List.length_take, List.length_drop] at * <;> omega)) (hq : q + m ≤ E.w := by decide) : Ob ω ((ZdQ (Z4 m (List.drop (0 + (i * E.w)) (Za E L))) (((E.cel (L.getD i E.dflt)).drop 0).take m), true) :: l) := ZF (ZyC E (q := 0) h (by omega) (by omega)) hl
theorem kG (o i q m w : Nat) (hl : Ob ω l) (h : i < L.length := by first | omega | (simp only [List.length_set, List.length_append, List.length_cons, List.length_nil, List.length_replicate, List.length_take, List.length_drop] at * <;> omega)) (ho : o = i * w + q := by omega) (hw : w = E.w := by rfl) (hq : q + m ≤ E.w := by decide) : Ob ω ((dP (ZS (code (Z9 E L)) o m = some (((E.cel (L.getD i E.dflt)).drop q).take m)), true) :: l) := kC (Z47 h (by rw [← hw]; exact ho) hq rfl) hl
theorem kA (x : α) (hl : Ob ω l) (h : L.length ≤ 100000 := by first | omega | (simp only [List.length_set, List.length_append, List.length_cons, List.length_nil, List.length_replicate, List.length_take, List.length_drop] at * <;> omega)) (h1 : Zu Zbg (E.enc x) = true := by rfl) : Ob ω ((dP ((1 = 1 ∧ Z4 (1 * E.w) (List.drop 0 (E.enc x)) = some (E.enc x) ∧ Zu Zbg (E.enc x) = true) ∧ 0 < 1 ∧ 1 ≤ 100000 ∧ L.length < L.length + 1 ∧ L.length ≤ 100000 ∧ L.length * E.w ≤ (List.length (Za E L)) ∧ List.take (L.length * E.w) (Za E L) ++ E.enc x = Za E (L ++ [x])), true) :: l) := by
 refine kC ⟨⟨rfl, ?_, h1⟩, by omega, by omega, by omega, h, by rw [ZdK]; exact Nat.le_refl _, ?_⟩ hl
 ·rw [Nat.one_mul, List.drop_zero, ← E.len x, Zfv _ _ (Nat.le_refl _), List.take_length]
 ·rw [List.take_of_length_le (by rw [ZdK]; exact Nat.le_refl _), Zk2]
  show _ = _ ++ Za E (x :: []);rw [ZcY, Zgf, List.append_nil]
theorem kA' (n : Nat) (x : α) (hl : Ob ω l) (hn : n = L.length := by first | rfl | omega | (simp only [List.length_append, List.length_cons, List.length_nil, List.length_take, List.length_drop, List.length_set] <;> omega)) (h : n ≤ 100000 := by first | omega | (simp only [List.length_set, List.length_append, List.length_cons, List.length_nil, List.length_replicate, List.length_take, List.length_drop] at * <;> omega)) (h1 : Zu Zbg (E.enc x) = true := by rfl) : Ob ω ((dP ((1 = 1 ∧ Z4 (1 * E.w) (List.drop 0 (E.enc x)) = some (E.enc x) ∧ Zu Zbg (E.enc x) = true) ∧ 0 < 1 ∧ 1 ≤ 100000 ∧ n < n + 1 ∧ n ≤ 100000 ∧ n * E.w ≤ (List.length (Za E L)) ∧ List.take (n * E.w) (Za E L) ++ E.enc x = Za E (L ++ [x])), true) :: l) := by subst hn;exact kA E L x hl h h1
end
end
section
variable {ω : Oq} {l : List (Bool × Bool)}
theorem bkX (t b : Bool) (h : t = b) (hl : Ob ω l) : Ob (.b 0 b ω) ((t, b) :: l) := kX t b h hl
theorem bhT {a b : Int} (h : a = b) (hl : Ob ω l) : Ob (.b 0 true ω) ((a == b, true) :: l) := hT h hl
theorem bhF {a b : Int} (h : ¬ a = b) (hl : Ob ω l) : Ob (.b 0 false ω) ((a == b, false) :: l) := hF h hl
theorem bhD {a b : Int} (h : ¬ a = b) (hl : Ob ω l) : Ob (.b 0 true ω) ((a != b, true) :: l) := hD h hl
theorem bhY {p : Prop} [Decidable p] (h : p) (hl : Ob ω l) : Ob (.b 0 true ω) ((decide p, true) :: l) := hY h hl
theorem bhN {p : Prop} [Decidable p] (h : ¬ p) (hl : Ob ω l) : Ob (.b 0 false ω) ((decide p, false) :: l) := hN h hl
section
variable (a b : Int)
theorem bkF (hl : Ob ω l) (h : ¬ a = b := by omega) : Ob (.b 0 false ω) ((a == b, false) :: l) := kF a b hl h
theorem bkE (hl : Ob ω l) (h : a = b := by omega) : Ob (.b 0 false ω) ((a != b, false) :: l) := kE a b hl h
theorem bkY (p : Prop) [Decidable p] (hl : Ob ω l) (h : p := by omega) : Ob (.b 0 true ω) ((decide p, true) :: l) := kY p hl h
theorem bkN (p : Prop) [Decidable p] (hl : Ob ω l) (h : ¬ p := by omega) : Ob (.b 0 false ω) ((decide p, false) :: l) := kN p hl h
theorem bkZ (t : Bool) (hl : Ob ω l) (h : t = true := by first | (simp only [beq_self_eq_true, Bool.and_self]; done) | (simp only [Bool.and_true, Bool.and_eq_true, beq_iff_eq] <;> first | omega | (simp_all; done) | grind)) : Ob (.b 0 true ω) ((t, true) :: l) := kZ t hl h
theorem bkO (t : Bool) (hl : Ob ω l) (h : t = false := by exact Bool.eq_false_iff.2 (by simp only [ne_eq, Bool.and_true, Bool.and_eq_true, beq_iff_eq]; first | omega | (intro hh; simp_all; done) | (intro hh; grind))) : Ob (.b 0 false ω) ((t, false) :: l) := kO t hl h
theorem vkW (hl : Ob ω l) (h : -9223372036854775808 ≤ a ∧ a ≤ 9223372036854775807 := by first | omega | (simp only [List.length_set, List.length_append, List.length_cons, List.length_nil, List.length_replicate, List.length_take, List.length_drop] at * <;> omega)) (h' : a = b := by first | rfl | omega) : Ob (.v 0 b ω) ((IntKind.i64.wrap a == b, true) :: l) := kW a b hl h h'
theorem vkV (hl : Ob ω l) (h : 0 ≤ a := by omega) (h' : -9223372036854775808 ≤ a / b ∧ a / b ≤ 9223372036854775807 := by omega) : Ob (.v 0 (a / b) ω) ((IntKind.i64.wrap (Int.tdiv a b) == a / b, true) :: l) := kV a b hl h h'
theorem vkM (hl : Ob ω l) (h : 0 ≤ a := by omega) : Ob (.v 0 (a % b) ω) ((Int.tmod a b == a % b, true) :: l) := kM a b hl h
end
theorem xkI (a : Int) (n : Nat) (hl : Ob ω l) (h : a = Int.ofNat n := by first | rfl | exact Zyv (by omega)) : Ob (.x 0 n ω) ((a == Int.ofNat n, true) :: l) := hT h hl
theorem xkJ (a : Int) (n : Nat) (hl : Ob ω l) (h : a = (n : Int) := by omega) : Ob (.x 0 n ω) ((a == Int.ofNat n, true) :: l) := kJ a n hl h
section
variable {α : Type} (E : Enc α) (L : List α)
theorem lkL (i q m : Nat) (hl : Ob ω l) (h : i < L.length := by first | omega | (simp only [List.length_set, List.length_append, List.length_cons, List.length_nil, List.length_replicate, List.length_take, List.length_drop] at * <;> omega)) (hq : q + m ≤ E.w := by decide) : Ob (.l 0 (((E.cel (L.getD i E.dflt)).drop q).take m) ω) ((ZdQ (Z4 m (List.drop ((0 + (i * E.w)) + q) (Za E L))) (((E.cel (L.getD i E.dflt)).drop q).take m), true) :: l) := kL E L i q m hl h hq
theorem Za2 (i q m : Nat) (hl : Ob ω l) (h : i < L.length := by first | omega | (simp only [List.length_set, List.length_append, List.length_cons, List.length_nil, List.length_replicate, List.length_take, List.length_drop] at * <;> omega)) (hq : q + m ≤ E.w := by decide) : Ob (.l 0 (((E.cel (L.getD i E.dflt)).drop 0).take m) ω) ((ZdQ (Z4 m (List.drop (0 + (i * E.w)) (Za E L))) (((E.cel (L.getD i E.dflt)).drop 0).take m), true) :: l) := kLn E L i q m hl h hq
theorem lkG (o i q m w : Nat) (hl : Ob ω l) (h : i < L.length := by first | omega | (simp only [List.length_set, List.length_append, List.length_cons, List.length_nil, List.length_replicate, List.length_take, List.length_drop] at * <;> omega)) (ho : o = i * w + q := by omega) (hw : w = E.w := by rfl) (hq : q + m ≤ E.w := by decide) : Ob (.l 0 (((E.cel (L.getD i E.dflt)).drop q).take m) ω) ((dP (ZS (code (Z9 E L)) o m = some (((E.cel (L.getD i E.dflt)).drop q).take m)), true) :: l) := kG E L o i q m w hl h ho hw hq
theorem wkA (x : α) (hl : Ob ω l) (h : L.length ≤ 100000 := by first | omega | (simp only [List.length_set, List.length_append, List.length_cons, List.length_nil, List.length_replicate, List.length_take, List.length_drop] at * <;> omega)) (h1 : Zu Zbg (E.enc x) = true := by rfl) : Ob (.w 0 (.ap 1 (E.enc x) (Za E (L ++ [x]))) ω) ((dP ((1 = 1 ∧ Z4 (1 * E.w) (List.drop 0 (E.enc x)) = some (E.enc x) ∧ Zu Zbg (E.enc x) = true) ∧ 0 < 1 ∧ 1 ≤ 100000 ∧ L.length < L.length + 1 ∧ L.length ≤ 100000 ∧ L.length * E.w ≤ (List.length (Za E L)) ∧ List.take (L.length * E.w) (Za E L) ++ E.enc x = Za E (L ++ [x])), true) :: l) := kA E L x hl h h1
theorem ZoZ (n : Nat) (x : α) (hl : Ob ω l) (hn : n = L.length := by first | rfl | omega | (simp only [List.length_append, List.length_cons, List.length_nil, List.length_take, List.length_drop, List.length_set] <;> omega)) (h : n ≤ 100000 := by first | omega | (simp only [List.length_set, List.length_append, List.length_cons, List.length_nil, List.length_replicate, List.length_take, List.length_drop] at * <;> omega)) (h1 : Zu Zbg (E.enc x) = true := by rfl) : Ob (.w 0 (.ap 1 (E.enc x) (Za E (L ++ [x]))) ω) ((dP ((1 = 1 ∧ Z4 (1 * E.w) (List.drop 0 (E.enc x)) = some (E.enc x) ∧ Zu Zbg (E.enc x) = true) ∧ 0 < 1 ∧ 1 ≤ 100000 ∧ n < n + 1 ∧ n ≤ 100000 ∧ n * E.w ≤ (List.length (Za E L)) ∧ List.take (n * E.w) (Za E L) ++ E.enc x = Za E (L ++ [x])), true) :: l) := kA' E L n x hl hn h h1
end
end
section
variable {ρ : Nat → Nat} {bl H : List (Option AObj)}
theorem bE : Z1 ρ [] [] := trivial
theorem b1 {b : Option AObj} (h : Z1 ρ bl H) : Z1 ρ (b :: bl) (none :: H) := h
theorem bN (h : Z1 ρ bl H) : Z1 ρ (none :: bl) (none :: H) := h
theorem bC {o p : AObj} (h : ZfG ρ o p) (hb : Z1 ρ bl H) : Z1 ρ (some o :: bl) (some p :: H) := ⟨h, hb⟩
theorem bM (o : AObj) {p : AObj} (hb : Z1 ρ bl H) (h : ZfG ρ o p := by exact ⟨rfl, ⟨[], by kernel_rfl⟩, by kernel_rfl⟩) : Z1 ρ (some o :: bl) (some p :: H) := ⟨h, hb⟩
theorem bS (c : List Value) {t : TypeId} {c' : List Value} (hb : Z1 ρ bl H) (h : c.map (ZR ρ 1) = c' ++ [] := by rfl) (hs : Zu (Z3 1) c = true := by rfl) : Z1 ρ (some (.cells c t) :: bl) (some (.cells c' t) :: H) := ⟨⟨rfl, ⟨[], h⟩, hs⟩, hb⟩
theorem bR {α : Type} {E : Enc α} {L : List α} {t : TypeId} (hb : Z1 ρ bl H) : Z1 ρ (some (.cells (Za E L) t) :: bl) (some (.cells (Za E L) t) :: H) := ⟨ZbP _ L _, hb⟩
theorem bQ {α : Type} {E : Enc α} {L : List α} {t : TypeId} (hb : Z1 ρ bl H) : Z1 ρ (some (.cells (Za E L) t true) :: bl) (some (.cells (Za E L) t true) :: H) := ⟨Z3E _ L _, hb⟩
end
theorem inE {a : Nat} {l : List Nat} (h : List.elem a l = true) : a ∈ l := List.mem_of_elem_eq_true h
theorem niE {a : Nat} {l : List Nat} (h : List.elem a l = false) : ¬ a ∈ l := fun m => by rw [List.elem_eq_true_of_mem m] at h; cases h
theorem alE {l m : List Nat} (h : Zu (fun j => List.elem j m) l = true) : ∀ j ∈ l, j ∈ m := fun j hj => inE (Zaf h j hj)
def unV (live : List Nat) (v : Value) : Value := ZR (fun k => live.getD k k) 3 v
theorem ZyD {ρ : Nat → Nat} {live : List Nat} : ∀ {L : List (Nat × Value)}, L.map (·.2) = L.map (fun x => ZR ρ 3 (unV live x.2)) → Zu (fun x => Z3 3 (unV live x.2)) L = true → Zc0 ρ (L.map fun x => some (unV live x.2)) L
 | [], _, _ => trivial
 | x :: L, h, k => by have h1 := List.cons.inj h;have k1 : Z3 3 (unV live x.2) = true := Zaf k x List.mem_cons_self;refine ⟨⟨h1.1, k1⟩, ZyD h1.2 ?_⟩;have e : Zu (fun x => Z3 3 (unV live x.2)) (x :: L) = (Z3 3 (unV live x.2) && Zu (fun x => Z3 3 (unV live x.2)) L) := rfl;rw [e, k1] at k;simpa using k
def ilT : Nat → Bool := fun _ => true
section
variable {P : Program} {ext : FuncId → Option Ext} {f : FuncId} {fn : Func} {pre : List AObj} {A : Array Value} {R : Type} {V : R → Value} {Po : R → List (Option AObj)} {bl : List (Option AObj)} {ob : List (Bool × Bool)}
theorem fxC (live : List Nat) (u : Value) {r : R} {ω : Oq} (ho : Ob ω ob) (hbl : Z1 (rho live far) bl (Po r)) (hv : V r = ZR (rho live far) 3 u ∧ Z3 3 u = true := by exact ⟨by rfl, by rfl⟩) (hev : ZoQ live (ZsX P ext fn pre A 4000 ω.t) = some (u, bl, ob) := by as_aux_lemma => kernel_rfl) (hl : live.length = (Po r).length := by rfl) (hn : live.Nodup := by decide +kernel) (hk : Zbw pre.length live = true := by rfl) : Fx P ext fn pre A V Po (some r) :=
 Z37 hev ho hl hn hk hv hbl
theorem Zr (live : List Nat) {r : R} {ω : Oq} (ho : Ob ω ob) (hbl : Z1 (rho live far) bl (Po r)) (hv : V r = ZR (rho live far) 3 (unV live (V r)) ∧ Z3 3 (unV live (V r)) = true := by exact ⟨by rfl, by rfl⟩) (hev : ZoQ live (ZsX P ext fn pre A 4000 ω.t) = some ((unV live (V r)), bl, ob) := by as_aux_lemma => kernel_rfl) (hl : live.length = (Po r).length := by rfl) (hn : live.Nodup := by decide +kernel) (hk : Zbw pre.length live = true := by rfl) : Fx P ext fn pre A V Po (some r) :=
 Z37 hev ho hl hn hk hv hbl
end
namespace Mach
section
variable {P : Program} {ext : FuncId → Option Ext} {M : Mach} {x : M.X} {A : Array Value} {bl : List (Option AObj)} {ob : List (Bool × Bool)}
section
variable (live : List Nat)
theorem okF (u : Value) {r : M.R} {ω : Oq} (ho : Ob ω ob) (hbl : Z1 (rho live far) bl (M.Po r)) (hv : M.V r = ZR (rho live far) 3 u ∧ Z3 3 u = true := by exact ⟨by rfl, by rfl⟩) (hev : ∀ gv, Zi9 live (M.Start x gv P ext 1000000 0 4000 ω.t) = some (u, bl, ob) := by intro gv; kernel_rfl) (hl : live.length = (M.Po r).length := by rfl) (hn : live.Nodup := by decide +kernel) (hk : Zbw M.pre.length live = true := by rfl) : M.Ok P ext x (some (.inr r)) :=
 ok_fin hev ho hl hn hk hv hbl
theorem okF0 {r : M.R} {ω : Oq} (ho : Ob ω ob) (hbl : Z1 (rho live far) bl (M.Po r)) (hv : M.V r = ZR (rho live far) 3 (unV live (M.V r)) ∧ Z3 3 (unV live (M.V r)) = true := by exact ⟨by rfl, by rfl⟩) (hev : ∀ gv, Zi9 live (M.Start x gv P ext 1000000 0 4000 ω.t) = some ((unV live (M.V r)), bl, ob) := by intro gv; kernel_rfl) (hl : live.length = (M.Po r).length := by rfl) (hn : live.Nodup := by decide +kernel) (hk : Zbw M.pre.length live = true := by rfl) : M.Ok P ext x (some (.inr r)) :=
 ok_fin hev ho hl hn hk hv hbl
theorem enF0 {r : M.R} {ω : Oq} (ho : Ob ω ob) (hbl : Z1 (rho live far) bl (M.Po r)) (hv : M.V r = ZR (rho live far) 3 (unV live (M.V r)) ∧ Z3 3 (unV live (M.V r)) = true := by exact ⟨by rfl, by rfl⟩) (hev : Zi9 live (M.startE P ext A 1000000 0 4000 ω.t) = some ((unV live (M.V r)), bl, ob) := by kernel_rfl) (hl : live.length = (M.Po r).length := by rfl) (hn : live.Nodup := by decide +kernel) (hk : Zbw M.pre.length live = true := by rfl) : M.Enter P ext A (some (.inr r)) :=
 en_fin hev ho hl hn hk hv hbl
theorem okN (tv : List (Option Value)) {y : M.X} {ω : Oq} (ho : Ob ω ob) (ht : Zc0 (rho live far) tv (M.L y)) (hbl : Z1 (rho live far) bl (M.H y)) (hr : List.elem (M.hd y) (ZaD (M.KK (M.hd x))) = true := by kernel_rfl) (hev : ∀ gv, Zk1 (M.hd y) live ((M.L y).map (·.1)) (M.Start x gv P ext 1000000 0 4000 ω.t) = some (tv, bl, ob) := by intro gv; kernel_rfl) (hL : M.isL (M.hd y) = true := by rfl) (hl : live.length = (M.H y).length := by rfl) (hn : live.Nodup := by decide +kernel) (hk : Zbw M.pre.length live = true := by rfl) : M.Ok P ext x (some (.inl y)) :=
 ok_next (tv := fun _ => tv) hL (inE hr) hev ho hl hn hk (fun _ => ht) hbl
theorem okN0 {y : M.X} {ω : Oq} (ho : Ob ω ob) (hbl : Z1 (rho live far) bl (M.H y)) (hr : List.elem (M.hd y) (ZaD (M.KK (M.hd x))) = true := by kernel_rfl) (ht : (M.L y).map (·.2) = (M.L y).map (fun x => ZR (rho live far) 3 (unV live x.2)) := by kernel_rfl) (hs : Zu (fun x => Z3 3 (unV live x.2)) (M.L y) = true := by kernel_rfl) (hev : ∀ gv, Zk1 (M.hd y) live ((M.L y).map (·.1)) (M.Start x gv P ext 1000000 0 4000 ω.t) = some (((M.L y).map fun x => some (unV live x.2)), bl, ob) := by intro gv; kernel_rfl) (hL : M.isL (M.hd y) = true := by rfl) (hl : live.length = (M.H y).length := by rfl) (hn : live.Nodup := by decide +kernel) (hk : Zbw M.pre.length live = true := by rfl) : M.Ok P ext x (some (.inl y)) :=
 ok_next (tv := fun _ => ((M.L y).map fun x => some (unV live x.2))) hL (inE hr) hev ho hl hn hk (fun _ => ZyD ht hs) hbl
theorem okC (cd cm : Nat) (live : List Nat) (tv : List (Option Value)) {y : M.X} {ω : Oq} (ho : Ob ω ob) (ht : Zc0 (rho live far) tv (M.L y)) (hbl : Z1 (rho live far) bl (M.H y)) (hsub : Zu (fun j => List.elem j (ZaD (M.KK (M.hd x)))) (ZaD (M.code (M.hd y)).2) = true := by kernel_rfl) (hev : ∀ gv, ZoS live ((M.L y).map (·.1)) (M.Start x gv P ext cd cm 4000 ω.t) = some (M.code (M.hd y), tv, bl, ob) := by intro gv; kernel_rfl) (hL : M.isL (M.hd y) = false := by rfl) (hl : live.length = (M.H y).length := by rfl) (hn : live.Nodup := by decide +kernel) (hk : Zbw M.pre.length live = true := by rfl) : M.Ok P ext x (some (.inl y)) :=
 Z36 (tv := fun _ => tv) hL rfl (alE hsub) hev ho hl hn hk (fun _ => ht) hbl
theorem okC0 (cd cm : Nat) (live : List Nat) {y : M.X} {ω : Oq} (ho : Ob ω ob) (hbl : Z1 (rho live far) bl (M.H y)) (hsub : Zu (fun j => List.elem j (ZaD (M.KK (M.hd x)))) (ZaD (M.code (M.hd y)).2) = true := by kernel_rfl) (ht : (M.L y).map (·.2) = (M.L y).map (fun x => ZR (rho live far) 3 (unV live x.2)) := by kernel_rfl) (hs : Zu (fun x => Z3 3 (unV live x.2)) (M.L y) = true := by kernel_rfl) (hev : ∀ gv, ZoS live ((M.L y).map (·.1)) (M.Start x gv P ext cd cm 4000 ω.t) = some (M.code (M.hd y), ((M.L y).map fun x => some (unV live x.2)), bl, ob) := by intro gv; kernel_rfl) (hL : M.isL (M.hd y) = false := by rfl) (hl : live.length = (M.H y).length := by rfl) (hn : live.Nodup := by decide +kernel) (hk : Zbw M.pre.length live = true := by rfl) : M.Ok P ext x (some (.inl y)) :=
 Z36 (tv := fun _ => ((M.L y).map fun x => some (unV live x.2))) hL rfl (alE hsub) hev ho hl hn hk (fun _ => ZyD ht hs) hbl
theorem okH (tv : List (Option Value)) {y : M.X} {ω : Oq} (ho : Ob ω ob) (ht : Zc0 (rho live far) tv (M.L y)) (hbl : Z1 (rho live far) bl (M.H y)) (hsub : Zu (fun j => List.elem j (ZaD (M.KK (M.hd x)))) (ZaD (M.code (M.hd y)).2) = true := by kernel_rfl) (hev : ∀ gv, ZeQ live ((M.L y).map (·.1)) (M.Start x gv P ext 1000000 0 4000 ω.t) = some (M.code (M.hd y), tv, bl, ob) := by intro gv; kernel_rfl) (hL : M.isL (M.hd y) = true := by rfl) (hl : live.length = (M.H y).length := by rfl) (hn : live.Nodup := by decide +kernel) (hk : Zbw M.pre.length live = true := by rfl) : M.Ok P ext x (some (.inl y)) :=
 Z1C (tv := fun _ => tv) hL rfl (alE hsub) hev ho hl hn hk (fun _ => ht) hbl
theorem okH0 {y : M.X} {ω : Oq} (ho : Ob ω ob) (hbl : Z1 (rho live far) bl (M.H y)) (hsub : Zu (fun j => List.elem j (ZaD (M.KK (M.hd x)))) (ZaD (M.code (M.hd y)).2) = true := by kernel_rfl) (ht : (M.L y).map (·.2) = (M.L y).map (fun x => ZR (rho live far) 3 (unV live x.2)) := by kernel_rfl) (hs : Zu (fun x => Z3 3 (unV live x.2)) (M.L y) = true := by kernel_rfl) (hev : ∀ gv, ZeQ live ((M.L y).map (·.1)) (M.Start x gv P ext 1000000 0 4000 ω.t) = some (M.code (M.hd y), ((M.L y).map fun x => some (unV live x.2)), bl, ob) := by intro gv; kernel_rfl) (hL : M.isL (M.hd y) = true := by rfl) (hl : live.length = (M.H y).length := by rfl) (hn : live.Nodup := by decide +kernel) (hk : Zbw M.pre.length live = true := by rfl) : M.Ok P ext x (some (.inl y)) :=
 Z1C (tv := fun _ => ((M.L y).map fun x => some (unV live x.2))) hL rfl (alE hsub) hev ho hl hn hk (fun _ => ZyD ht hs) hbl
theorem enH (tv : List (Option Value)) {y : M.X} {ω : Oq} (ho : Ob ω ob) (ht : Zc0 (rho live far) tv (M.L y)) (hbl : Z1 (rho live far) bl (M.H y)) (hsub : ZaD (M.code (M.hd y)).2 = [] := by kernel_rfl) (hev : ZeQ live ((M.L y).map (·.1)) (M.startE P ext A 1000000 0 4000 ω.t) = some (M.code (M.hd y), tv, bl, ob) := by kernel_rfl) (hL : M.isL (M.hd y) = true := by rfl) (hl : live.length = (M.H y).length := by rfl) (hn : live.Nodup := by decide +kernel) (hk : Zbw M.pre.length live = true := by rfl) : M.Enter P ext A (some (.inl y)) :=
 en_head hL rfl hsub hev ho hl hn hk ht hbl
theorem enH0 {y : M.X} {ω : Oq} (ho : Ob ω ob) (hbl : Z1 (rho live far) bl (M.H y)) (hsub : ZaD (M.code (M.hd y)).2 = [] := by kernel_rfl) (ht : (M.L y).map (·.2) = (M.L y).map (fun x => ZR (rho live far) 3 (unV live x.2)) := by kernel_rfl) (hs : Zu (fun x => Z3 3 (unV live x.2)) (M.L y) = true := by kernel_rfl) (hev : ZeQ live ((M.L y).map (·.1)) (M.startE P ext A 1000000 0 4000 ω.t) = some (M.code (M.hd y), ((M.L y).map fun x => some (unV live x.2)), bl, ob) := by kernel_rfl) (hL : M.isL (M.hd y) = true := by rfl) (hl : live.length = (M.H y).length := by rfl) (hn : live.Nodup := by decide +kernel) (hk : Zbw M.pre.length live = true := by rfl) : M.Enter P ext A (some (.inl y)) :=
 en_head hL rfl hsub hev ho hl hn hk (ZyD ht hs) hbl
end
theorem specT (F : Fit P ext) (M : Mach) {f : FuncId} (hfn : P.funcs[f]? = some M.fn) {A : Array Value} (ok : ∀ x, M.Ok P ext x (M.step x)) {o : Option (M.X ⊕ M.R)} (en : M.Enter P ext A o) {n : Nat} {r : M.R} (h : goM M.step n o = some r) (hH : ∀ x, (M.H x).length ≤ far := by intro x; cases x <;> exact ZP _ rfl) (hPo : ∀ r, (M.Po r).length ≤ far := by intro r; cases r <;> exact ZP _ rfl) (hK : ∀ x, M.isL (M.hd x) = true → M.hd x ∉ ZaD (M.code (M.hd x)).2 := by intro x; cases x <;> exact fun _ => niE (by kernel_rfl)) (hb : M.fn.body = some (ZM M.fn) := by kernel_rfl) (hA : Nat.ble A.size M.fn.ntmps = true := by kernel_rfl) : LSpec P f A M.pre (M.V r) (M.Po r) :=
 spec F M hfn hb hA hH hPo hK ok en h
end
theorem oi {P : Program} {ext : FuncId → Option Ext} {M : Mach} {x : M.X} {c : Prop} [Decidable c] {A : Option (M.X ⊕ M.R)} (h : c → M.Ok P ext x A) : M.Ok P ext x (if c then A else none) := ok_ite h fun _ => ok_none
end Mach
theorem tE {ρ : Nat → Nat} : Zc0 ρ [] [] := trivial
theorem tC {ρ : Nat → Nat} {u : Value} {tv : List (Option Value)} {x : Nat × Value} {l : List (Nat × Value)} (ht : Zc0 ρ tv l) (h : x.2 = ZR ρ 3 u ∧ Z3 3 u = true := by exact ⟨by rfl, by rfl⟩) : Zc0 ρ (some u :: tv) (x :: l) := ⟨h, ht⟩
section
variable {ω : Oq} {l : List (Bool × Bool)}
end
theorem bU {ρ : Nat → Nat} {bl H : List (Option AObj)} (c : List Value) (j : Nat) {x y : Value} (hxy : x = y) {t : TypeId} {c' : List Value} (hb : Z1 ρ bl H) (h1 : c.map (ZR ρ 1) = c'.set j x := by rfl) (h2 : c'.set j y = c' := by rfl) (hs : Zu (Z3 1) c = true := by rfl) : Z1 ρ (some (.cells c t) :: bl) (some (.cells c' t) :: H) := ⟨⟨rfl, ⟨[], by rw [h1, hxy, h2, List.append_nil]⟩, hs⟩, hb⟩
theorem bU2 {ρ : Nat → Nat} {bl H : List (Option AObj)} (c : List Value) (j : Nat) {x y : Value} (hxy : x = y) (j' : Nat) {x' y' : Value} (hxy' : x' = y') {t : TypeId} {c' : List Value} (hb : Z1 ρ bl H) (h1 : c.map (ZR ρ 1) = (c'.set j x).set j' x' := by rfl) (h2 : (c'.set j y).set j' y' = c' := by rfl) (hs : Zu (Z3 1) c = true := by rfl) : Z1 ρ (some (.cells c t) :: bl) (some (.cells c' t) :: H) := ⟨⟨rfl, ⟨[], by rw [h1, hxy, hxy', h2, List.append_nil]⟩, hs⟩, hb⟩
section
variable {P : Program} {ext : FuncId → Option Ext} {f : FuncId} {fn : Func} {pre : List AObj} {A : Array Value} {R : Type} {V : R → Value} {Po : R → List (Option AObj)} {bl : List (Option AObj)} {ob : List (Bool × Bool)}
end
structure ToldS where
 A : Array Value
 pt : List (Nat × AObj)
 gv : Value
 qt : List (Nat × Option AObj)
 dn : Nat
noncomputable def ToldS.t (S : ToldS) : Told := .call S.pt S.gv S.qt S.dn
def ToldS.P (S : ToldS) (P : Program) (f : FuncId) (n : Nat) : Prop := Zb3 P f S.A S.pt S.gv S.qt n S.dn
noncomputable def Zta : List (Nat × AObj) → List (Bool × Bool) → List (Bool × Bool)
 | [], l => l
 | (_, .cells c _ _) :: r, l => (dP (c = c), true) :: Zta r l
 | (_, .ro O _) :: r, l => (dP (O = O), true) :: Zta r l
theorem Znu {ω : Oq} : ∀ (r : List (Nat × AObj)) {l : List (Bool × Bool)}, Ob ω l → Ob ω (Zta r l)
 | [], _, h => h
 | (_, .cells _ _ _) :: r, _, h => kR _ (Znu r h)
 | (_, .ro _ _) :: r, _, h => kR _ (Znu r h)
theorem kK {P : Program} {f : FuncId} {S : ToldS} {n : Nat} (h : S.P P f n) {ω : Oq} {l : List (Bool × Bool)} (hl : Ob ω l) : Ob (.w 0 S.t ω) ((dP (Zb3 P f S.A S.pt S.gv S.qt n S.dn), true) :: Zta S.pt l) := ZF (Zn h) (Znu (ω := ω) _ hl)
theorem kKg (g : Nat) {P : Program} {f : FuncId} {S : ToldS} {n : Nat} (h : S.P P f n) {ω : Oq} {l : List (Bool × Bool)} (hl : Ob ω l) : Ob (.w g S.t ω) ((dP (Zb3 P f S.A S.pt S.gv S.qt n S.dn), true) :: Zta S.pt l) := ZF (Zn h) (Znu (ω := ω) _ hl)
theorem kKa {P : Program} {f : FuncId} {S : ToldS} {n : Nat} (h : S.P P f n) {ω : Oq} {l : List (Bool × Bool)} (hl : Ob ω l) : Ob (.w 0 S.t ω) ((dP (Zb3 P f S.A S.pt S.gv S.qt n S.dn), true) :: l) := ZF (Zn h) hl
theorem Z2F (g : Nat) {P : Program} {f : FuncId} {S : ToldS} {n : Nat} (h : S.P P f n) {ω : Oq} {l : List (Bool × Bool)} (hl : Ob ω l) : Ob (.w g S.t ω) ((dP (Zb3 P f S.A S.pt S.gv S.qt n S.dn), true) :: l) := ZF (Zn h) hl
theorem kKb {P : Program} {f : FuncId} {S : ToldS} {n : Nat} {A : Array Value} (e : A = S.A) (h : S.P P f n) {ω : Oq} {l : List (Bool × Bool)} (hl : Ob ω l) : Ob (.w 0 S.t ω) ((dP (Zb3 P f A S.pt S.gv S.qt n S.dn), true) :: l) := ZF (Zn (e ▸ h)) hl
theorem Zcj {P : Program} {f : FuncId} {A : Array Value} {pre : List AObj} {v : Value} {post : List (Option AObj)} (h : LSpec P f A pre v post) (κ : List Nat) (n : Nat) (ch : List Nat) {S : ToldS} (hnd : κ.Nodup) (hlt : ∀ k ∈ κ, k < n) (hκ : κ.length = pre.length := by rfl) (hle : Nat.ble pre.length post.length = true := by rfl) (hch : Zu (fun j => Nat.blt j post.length) ch = true := by rfl)
  (hA : Zu (Za8 pre.length 3) A.toList = true := by rfl) (hpre : Znn pre.length pre := by repeat' (first | exact trivial | apply And.intro | exact ZcZ _ _ _ | rfl)) (hv : (Za8 post.length 3 v || Zc4 v) = true := by rfl) (hpost : Zjo post.length post := by repeat' (first | exact trivial | apply And.intro | exact ZcZ _ _ _ | rfl)) (hk : Zyx ch 0 pre post := by repeat' (first | exact trivial | apply And.intro | exact Or.inl (by decide) | exact Or.inr rfl | decide))
  (eA : S.A = ZgJ (ZR (kap κ n) 3) A := by rfl) (ev : S.gv = ZR (kap κ n) 3 v := by rfl) (edn : pre.length + S.dn = post.length := by rfl) (ep : S.pt = preL κ n pre := by repeat' (first | refine Zw (Zkg rfl ?_) ?_ | exact Zk4 _ _ _ | exact ZvS _ _ _ | rfl)) (eq : S.qt = Z2A κ n ch post := by repeat' (first | refine Zw (Zkg rfl ?_) ?_ | refine Z1A ?_ | exact Zk4 _ _ _ | exact ZvS _ _ _ | rfl)) : S.P P f n :=
 LSpec.callL h κ n ch hκ hnd hlt (Nat.le_of_ble_eq_true hle) (fun j hj => Nat.le_of_ble_eq_true (Zaf hch j hj)) hA hpre hv hpost hk eA ev edn ep eq
def tP {P : Program} {f : FuncId} {A : Array Value} {v : Value} {post : List (Option AObj)} (_h : LSpec P f A [] v post) : ToldS := ⟨A, [], v, [], 0⟩
theorem tQ {P : Program} {f : FuncId} {A : Array Value} {v : Value} {post : List (Option AObj)} (h : LSpec P f A [] v post) (n : Nat) (hp : post = [] := by rfl) (hA : Zu (Za8 0 3) A.toList = true := by rfl) (hv : (Za8 0 3 v || Zc4 v) = true := by rfl) (eA : A = ZgJ (ZR (kap [] n) 3) A := by rfl) (ev : v = ZR (kap [] n) 3 v := by rfl) : (tP h).P P f n := by subst hp;exact Zcj h [] n [] (S := tP h) List.nodup_nil (fun _ q => by cases q) rfl rfl rfl hA trivial hv trivial trivial eA ev rfl rfl rfl
theorem ci {a b : Int} (h : a = b := by first | rfl | omega) : Value.int .i64 a = Value.int .i64 b := congrArg _ h
theorem cr {a : Value} {l m : List Value} (h : l = m) : a :: l = a :: m := congrArg _ h
theorem cr4 {a b c d : Value} {l m : List Value} (h : l = m) : a :: b :: c :: d :: l = a :: b :: c :: d :: m := congrArg (fun l => a :: b :: c :: d :: l) h
theorem nbf {b : Bool} (h : b = true := by first | assumption | exact Decidable.not_not.1 (by assumption) | simp_all) : (!b) = false := Z6p h
theorem nbt {b : Bool} (h : ¬ (b = true) := by first | assumption | simp_all) : (!b) = true := Z6o h
section
variable {α : Type} {E : Enc α}
theorem Z1H (hE : ∀ x, (E.enc x).map (nlV 0) = E.enc x) : ∀ L : List α, (Za E L).map (nlV 0) = Za E L
 | [] => by rw [Zgf]; rfl
 | x :: L => by rw [ZcY, List.map_append, hE, Z1H hE L]
theorem Z6q (hE : ∀ x, (E.enc x).map (nlV 0) = E.enc x) {L : List α} {l : List Value} {x : α} (hl : l.map (nlV 0) = E.enc x) : (Za E L ++ l).map (nlV 0) = Za E (L ++ [x]) := by rw [List.map_append, Z1H hE, hl, Zk2, ZcY, Zgf, List.append_nil]
theorem Z6r {l : List Value} {x : α} (hl : l.map (nlV 0) = E.enc x) : l.map (nlV 0) = Za E [x] := by rw [hl, ZcY, Zgf, List.append_nil]
theorem Z6s {L L0 : List α} {l : List Value} {n m : Nat} (hm : m = n * E.w) (hn : n ≤ L.length) (hR : L.take n = L0) : m ≤ (Za E L).length ∧ (Za E L).take m ++ l = Za E L0 ++ l := by subst hm hR;exact ⟨by rw [ZdK]; exact Nat.mul_le_mul_right _ hn, by rw [Zlk]⟩
end
section
variable {α : Type} {E : Enc α}
def Zjy (d : α) (n : Nat) (L : List α) : List α := (List.range n).map fun i => L.getD i d
def Za3 (E : Enc α) (n : Nat) (a : List Value) (L : List α) (b : List Value) : List Value := a ++ (Za E (Zjy E.dflt n L) ++ b)
theorem Znv {d : α} {n : Nat} {L : List α} : (Zjy d n L).length = n := by simp [Zjy]
theorem ZyE {d : α} {n i : Nat} {L : List α} (h : i < n) : (Zjy d n L).getD i d = L.getD i d := by simp [Zjy, h]
theorem Z4C {d x : α} {n i : Nat} {L : List α} (h : i < n) (hl : i < L.length) : Zjy d n (L.set i x) = (Zjy d n L).set i x := by
 apply List.ext_getElem?;intro j;simp only [Zjy, List.getElem?_map, List.getElem?_set, List.length_map, List.length_range];by_cases hj : j < n
 ·rw [List.getElem?_range hj]
  by_cases hij : i = j
  ·subst hij
   simp [hj, List.getD, List.getElem?_set, hl]
  ·simp [hij, List.getD, List.getElem?_set]
 ·rw [List.getElem?_eq_none (by simp; omega)]
  by_cases hij : i = j
  ·subst hij; omega
  ·simp [hij]
theorem Z3F {β : Type} {m : Nat} {l r : List β} (h : m ≤ l.length) : Z4 m (l ++ r) = Z4 m l := by rw [Zfv m _ (by simp; omega), Zfv m _ h, List.take_append_of_le_length h]
theorem Znw {n p i q m o : Nat} {a b : List Value} {L : List α} {cs : List Cell} (ha : a.length = p) (hi : i < n) (ho : o = p + i * E.w + q) (hq : q + m ≤ E.w) (hs : Ze5 cs = true) (hc : ((E.enc (L.getD i E.dflt)).drop q).take m = Zm cs) : ZdQ (Z4 m ((Za3 E n a L b).drop o)) cs = true := by
 have hlen : (Za E (Zjy E.dflt n L)).length = n * E.w := by rw [ZdK, Znv]
 have hle : (i + 1) * E.w ≤ n * E.w := Nat.mul_le_mul_right _ hi;rw [Nat.add_mul, Nat.one_mul] at hle;subst ho ha;unfold Za3;rw [Nat.add_assoc, ← List.drop_drop, List.drop_left', List.drop_append_of_le_length (by omega), Z3F (by rw [List.length_drop]; omega)]
 ·exact Z38 (i := i) (q := q) (by rw [Znv]; exact hi) rfl hq hs (by rw [ZyE hi]; exact hc)
 ·rfl
theorem Zup {n p i q o : Nat} {a b l : List Value} {L : List α} (x : α) (ha : a.length = p) (hi : i < n) (hl : i < L.length) (ho : o = p + i * E.w + q) (hq : q + l.length ≤ E.w) (hx : Zju (E.enc (L.getD i E.dflt)) q l = E.enc x) : o + l.length ≤ (Za3 E n a L b).length ∧ Zju (Za3 E n a L b) o l = Za3 E n a (L.set i x) b := by
 have hlen : (Za E (Zjy E.dflt n L)).length = n * E.w := by rw [ZdK, Znv]
 have hle : (i + 1) * E.w ≤ n * E.w := Nat.mul_le_mul_right _ hi;rw [Nat.add_mul, Nat.one_mul] at hle;obtain ⟨_, h2⟩ := Zbj (E := E) (L := Zjy E.dflt n L) (i := i) (q := q) (o := i * E.w + q) (l := l) x (by rw [Znv]; exact hi) rfl hq (by rw [ZyE hi]; exact hx);subst ho ha;refine ⟨by unfold Za3; simp only [List.length_append, hlen]; omega, ?_⟩;unfold Za3;rw [Z4C hi hl, ← h2];unfold Zju;generalize Za E (Zjy E.dflt n L) = X at hlen;have t1 : (a ++ (X ++ b)).take (a.length + (i * E.w + q)) = a ++ X.take (i * E.w + q) := by rw [List.take_append, List.take_of_length_le (by omega), Nat.add_sub_cancel_left, List.take_append_of_le_length (by omega)]
 have d1 : (a ++ (X ++ b)).drop (a.length + (i * E.w + q) + l.length) = X.drop (i * E.w + q + l.length) ++ b := by rw [Nat.add_assoc, ← List.drop_drop, List.drop_left', List.drop_append_of_le_length (by omega)];rfl
 rw [show a.length + i * E.w + q = a.length + (i * E.w + q) from Nat.add_assoc _ _ _, t1, d1];simp
end
end Ev
end Go.Proofs.YthfohmhipifiaaaGreat
