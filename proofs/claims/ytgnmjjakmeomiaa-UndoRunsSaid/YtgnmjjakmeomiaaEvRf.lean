/- Ranges over functions: an iterator's loop by its rounds. -/
import Derived.Test.YtgnmjjakmeomiaaEvRe
import Derived.Test.YtgnmjjakmeomiaaEvY
namespace Go.Proofs.Ytgnmjjakmeomiaa
open Go.RowKit
namespace Ev
section
variable {P : Program} {ext : FuncId → Option Ext}
section
variable {ι0 : Ren} {h0 : AH} {w0 : World} {n0 cn : Nat} {cT : Tr Value} {ac : Act} {l K : Nat} {R : Loop}
theorem IS.into {nt m : Nat} {L : Nat → Option Value} {H : Tr AObj} {T : Tr Value} {s : St} {live : List Nat} (hm : m ≤ far) (h : Zkb nt m L H T s live) {n1 : Nat} (hk : ZbZ n1 live = true) (hd : ∀ k, ι0 k ≠ none → k < n1)
  {ι : Ren} {a : Act} {W : World} (hb : TR ι0 cn [] cT { tmps := ac.tmps, defers := [] }) (hT : TR ι nt [] T a) (I : IS P ι0 h0 w0 0 cn cT ac l K R ι s W) (orc : Orc) :
  ∃ gv ι', TR ι' nt [] (tmps nt L gv) a ∧ IS P ι0 h0 w0 0 cn cT ac l K R ι' ⟨H, m, [], orc, []⟩ W ∧ ∀ k, m ≤ k → k < far → ι' k = none := by
 obtain ⟨gv, ι', a1, a2, a3, a4⟩ := Zka hT I.st live m far h.1 hm h.2.1 (fun k hk2 => ZfZ hk (hd k hk2)) L h.2.2.1 H.get h.2.2.2
 refine ⟨gv, ι', a1, ⟨a2, fun k hk => ?_, Nat.zero_le _, hb.on a2.ext, I.lo, I.de, I.ll, I.lk, fun k b hk => ?_⟩, a3⟩
 ·rcases Nat.lt_or_ge k m with h | h
  ·exact .inr (.inl ⟨Nat.zero_le _, h⟩)
  ·rcases Nat.lt_or_ge k far with h' | h'
   ·exact absurd (a3 k h h') hk
   ·exact .inr (.inr h')
 ·obtain ⟨k2, hk2⟩ := a4 k b hk
  exact I.nl k2 b hk2
end
def Zon (P : Program) (ι : Ren) (h : AH) (w : World) (nt : Nat) (T : Tr Value) (Hf : Tr AObj) (mf : Nat) (ex : Exit) (a' : Act) (w' : World) : Prop :=
 ex = .normal ∧ ∃ ι' K, Step P ι h w ι' Hf.get w' ∧ (∀ k, mf ≤ k → k < far → ι' k = none) ∧ w.heap.size ≤ K ∧ TR ι' nt [{ target := .collected K, args := #[] }] T a' ∧ w'.heap[K]? = some (.deferred (some [])) ∧ ∀ k b, ι' k = some b → b.1 ≠ K
theorem Zpg (F : Fit P ext) {nt m mf n1 gf id fuA : Nat} {g : Operand} {ps : Array Tmp} {asg body cA cB : Code} {T : Tr Value} {h : Tr AObj} {ι : Ren} {a : Act} {w : World} {av bv : Array Value} {fn : Func}
  (hT : TR ι nt [] T a) (he : Emb P ι h.get w) (hd : ∀ k, ι k ≠ none → k < n1)
  (hg : opnd T g = .func (.func gf) av bv) (hgd : Zd5 g = true) (hfn : P.funcs[gf]? = some fn) (hb : fn.body = some (.seq cA (.block id (.loop cB)))) (hsz : Nat.ble (av ++ #[Value.chan (some 0)] ++ bv).size fn.ntmps = true) (hres : fn.results.toList = [])
  (hm : m ≤ far) (hmf : mf ≤ far) {X : Type} (L : X → Nat → Option Value) (H : X → Tr AObj) (μ : X → Nat) (x0 : X) (ys : List Tmp) (Hf : Tr AObj)
  {orcA : Orc} {TA : Tr Value} {sA : St} {liveA : List Nat} {ysA : List Tmp} (hA : evI P ext fn.ntmps ⟨nt, T, ps, asg, body⟩ fuA cA (ZcW 0 (av ++ #[Value.chan (some 0)] ++ bv).toList .nil) ⟨h, n1, [], orcA, []⟩ [av.size] none = some (.normal, TA, sA, ysA, none)) (hAy : ∀ t ∈ ys, t ∈ ysA) (hAo : ∀ p ∈ sA.ob, p.1 = p.2) (hAn : sA.n ≤ far)
  (hAi : Zkb fn.ntmps m (L x0) (H x0) TA sA liveA) (hAk : ZbZ n1 liveA = true)
  (hB : ∀ x gv, ∃ fu orc e T' s' ys' live, evI P ext fn.ntmps ⟨nt, T, ps, asg, body⟩ fu cB (tmps fn.ntmps (L x) gv) ⟨H x, m, [], orc, []⟩ ys none = some (e, T', s', ys', none) ∧ (∀ t ∈ ys, t ∈ ys') ∧ (∀ p ∈ s'.ob, p.1 = p.2) ∧ s'.n ≤ far ∧ ZbZ n1 live = true ∧
   ((e = .normal ∧ ∃ y, μ y < μ x ∧ Zkb fn.ntmps m (L y) (H y) T' s' live) ∨ (e = .exit id ∧ Zkb fn.ntmps mf (fun _ => none) Hf T' s' live))) :
  (Code.rangeFunc g ps asg body).wpIn (Fr none) 0 P (Zon P ι h.get w nt T Hf mf) a w := by
 have hsz := Nat.le_of_ble_eq_true hsz
 have hgv : ∃ av' bv', Zb0 a g = .func (.func gf) av' bv' ∧ VRs ι av av' ∧ VRs ι bv bv' := by
  have hv := hg ▸ hT.opnd g
  generalize Zb0 a g = x' at hv
  cases hv with
  | atom h =>
   simp [Ev.atom] at h
   obtain ⟨rfl, rfl⟩ := h
   exact ⟨_, _, rfl, ⟨rfl, fun i x y hx => by simp at hx⟩, ⟨rfl, fun i x y hx => by simp at hx⟩⟩
  | func hs ht h1 h2 => exact ⟨_, _, rfl, ⟨hs, h1⟩, ⟨ht, h2⟩⟩
 obtain ⟨av', bv', hgv, hav, hbv⟩ := hgv
 have hgv : a.eval g = .func (.func gf) av' bv' := by
  cases g with
  | const v => simp only [Zd5] at hgd; simpa [Zb0, hgd, Act.eval] using hgv
  | _ => exact hgv
 refine wpIn_rangeFunc ?_
 intro fn0 _
 obtain ⟨R, hRd⟩ : ∃ R : Loop, R = { state := .ready, pending := none, fn := fn0, tmps := a.tmps, params := ps, assign := asg, body, defers := w.heap.size } := ⟨_, rfl⟩
 obtain ⟨W1, hW1⟩ : ∃ W1, (w.alloc (.deferred (some []))).alloc (.loop R) = W1 := ⟨_, rfl⟩
 have hL1 : W1.heap[w.heap.size + 1]? = some (.loop (Rp R none)) := by
  rw [show Rp R none = R by rw [hRd]; rfl]
  rw [← hW1]; have := World.alloc_heap_new (w.alloc (.deferred (some []))) (.loop R); rwa [World.size_alloc] at this
 have hK1 : W1.heap[w.heap.size]? = some (.deferred (some [])) := by
  rw [← hW1]; exact (Below.heap_alloc _ _ _ (by simp)).trans (World.alloc_heap_new w _)
 have hb1 : Below w.heap.size w W1 := by
  rw [← hW1]; exact ((Below.refl _ w).alloc (Nat.le_refl _) _).alloc (by simp) _
 have hT0 : TR ι nt [] T { tmps := a.tmps, defers := [] } := ⟨hT.1, rfl, hT.2.2⟩
 have I1 : IS P ι h.get w 0 nt T a (w.heap.size + 1) w.heap.size (Rp R none) ι ⟨h, n1, [], orcA, []⟩ W1 :=
  ⟨Step.below he hb1, Dom.refl, Nat.zero_le _, hT0, hL1, hK1, by omega, by omega, fun k b hk => by have := he.lt k b hk; omega⟩
 have hargs : VRs ι (av ++ #[Value.chan (some 0)] ++ bv) (av' ++ #[Value.func (.yield (w.heap.size + 1)) #[] #[]] ++ bv') :=
  Zds (Zds hav ⟨rfl, fun i x y hx hy => by
   cases i with
   | zero => simp at hx hy; rw [← hx, ← hy]; exact .glob rfl
   | succ i => simp at hx⟩) hbv
 have hR : R.tmps = a.tmps ∧ R.params = (⟨nt, T, ps, asg, body⟩ : Cx).ps ∧ R.assign = (⟨nt, T, ps, asg, body⟩ : Cx).asg ∧ R.body = (⟨nt, T, ps, asg, body⟩ : Cx).body := ⟨by rw [hRd], by rw [hRd], by rw [hRd], by rw [hRd]⟩
 refine ⟨w.heap.size + 1, [{ target := .collected w.heap.size, args := #[] }], W1, { target := .fn (.func gf) bv', args := av' ++ #[.func (.yield (w.heap.size + 1)) #[] #[]] }, W1, gf,
  av' ++ #[.func (.yield (w.heap.size + 1)) #[] #[]] ++ bv', W1, ?_, ?_, fun _ _ => trivial, ?_, fun e => (by cases e), ?_⟩
 ·rw [← hW1, hRd]; exact run_enterLoop_outer _ _ _ _ _
 ·simp only [resolve, hgv]
  simp [go_sem, Deferred.ofValue]
 ·simp [invoke, Zc3 hfn (F.go gf fn hfn) hb]
 ·refine callsIn_of_wp_marks hfn hb trivial (wpIn_seq ?_)
  refine wpIn_mono ((Zle (R := R) (cx := ⟨nt, T, ps, asg, body⟩) (ac := a) F hR fuA).1 cA _ ⟨h, n1, [], orcA, []⟩ _ none .normal TA sA ysA none hA hAo ι _ W1 (Zex hargs hsz) ?_ I1 ⟨hAn, fun k h1 _ => by
   cases hk : ι k with
   | none => rfl
   | some b => exact absurd (hd k (by rw [hk]; simp)) (by have : n1 ≤ k := h1; omega)⟩) ?_
  ·intro t ht
   rw [List.mem_singleton] at ht
   subst ht
   have hs := hav.1
   rw [Array.getD_eq_getD_getElem?, Array.getElem?_append_left (by simp; omega), Array.getElem?_append_left (by simp; omega), Array.getElem?_append_right (by omega)]
   simp [hs]
  ·rintro ex a1 w1 ⟨rfl, ι1, g1, gY', I2, _⟩
   have gY : YS (w.heap.size + 1) ys a1 := fun t ht => gY' t (hAy t ht)
   refine wpIn_block ?_
   obtain ⟨gv, ι2, k1, k2, k3⟩ := IS.into hm hAi hAk hd hT0 g1 I2 orcA
   have key : ∀ n x, μ x ≤ n → ∀ gv a1 w1 ι1 orc, TR ι1 fn.ntmps [] (tmps fn.ntmps (L x) gv) a1 → YS (w.heap.size + 1) ys a1 → IS P ι h.get w 0 nt T a (w.heap.size + 1) w.heap.size (Rp R none) ι1 ⟨H x, m, [], orc, []⟩ w1 → (∀ k, m ≤ k → k < far → ι1 k = none) →
     Code.roundsIn (Fr none) 0 P cB (Exit.inBlock id (bodyPostM (Fr none) (0 - 1) P fn (rangePost (Fr none) 0 P (w.heap.size + 1) (Zon P ι h.get w nt T Hf mf) { a with defers := [{ target := .collected w.heap.size, args := #[] }] ++ a.defers }))) (n + 1) a1 w1 := by
    intro n
    induction n using Nat.strongRecOn with
    | _ n ih =>
    intro x hx gv a1 w1 ι1 orc0 q1 qY q2 q3
    obtain ⟨fu, orc, e, T', s', ys', live, hev, hyy, hob, hfar, hkeep, hcase⟩ := hB x gv
    rw [roundsIn_succ]
    have q2' : IS P ι h.get w 0 nt T a (w.heap.size + 1) w.heap.size (Rp R none) ι1 ⟨H x, m, [], orc, []⟩ w1 := ⟨q2.st, q2.dm, q2.hn, q2.tr, q2.lo, q2.de, q2.ll, q2.lk, q2.nl⟩
    refine wpIn_mono ((Zle (R := R) (cx := ⟨nt, T, ps, asg, body⟩) (ac := a) F hR fu).1 cB _ ⟨H x, m, [], orc, []⟩ ys none e T' s' ys' none hev hob ι1 a1 w1 q1 qY q2' ⟨hfar, fun k h1 h2 => q3 k h1 (by have : k < s'.n := h2; omega)⟩) ?_
    rintro ex a2 w2 ⟨rfl, ι2, r1, rY', r2, _⟩
    have rY : YS (w.heap.size + 1) ys a2 := fun t ht => rY' t (hyy t ht)
    rcases hcase with ⟨rfl, y, hy, hi⟩ | ⟨rfl, hi⟩
    ·obtain ⟨gv', ι3, u1, u2, u3⟩ := IS.into hm hi hkeep hd hT0 r1 r2 orc
     cases n with
     | zero => omega
     | succ n => exact ih n (by omega) y (by omega) gv' a2 w2 ι3 orc u1 rY u2 u3
    ·obtain ⟨gv', ι3, u1, u2, u3⟩ := IS.into hmf hi hkeep hd hT0 r1 r2 orc
     show if id = id then _ else _
     rw [if_pos rfl]
     show LeavesInM (Fr none) (0 - 1) P fn a2.tmps _ a2.defers .returning w2
     rw [u1.2.1]
     obtain ⟨v', hrun, _⟩ := Zcb (s := ⟨Hf, mf, [], orc, []⟩) (fn := fn) (v := .tuple #[]) u1 u2.st.emb (by rw [hres]; rfl)
     have hr := run_endLoop (P := P) u2.lo (by simp [Rp])
     have I3 := u2.put { Rp R none with state := .exhausted }
     refine ⟨v', hrun, _, _, hr, ?_⟩
     exact ⟨rfl, ι3, w.heap.size, I3.st, u3, Nat.le_refl _, ⟨I3.tr.1, by rw [hT.2.1]; rfl, I3.tr.2.2⟩, I3.de, fun k b hk => (I3.nl k b hk).2⟩
   exact wpIn_loop_rounds (μ x0 + 1) (key (μ x0) x0 (Nat.le_refl _) gv a1 w1 ι2 orcA k1 gY k2 k3)
end
end Ev
end Go.Proofs.Ytgnmjjakmeomiaa
