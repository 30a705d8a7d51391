/- Part 4. -/
import Derived.Test.YtgbiifdcabmffaaGreatZac
/- Ranges over functions that the body leaves. -/
namespace Go.Proofs.YtgbiifdcabmffaaGreat
open Go.RowKit
namespace Ev
section
variable {P : Program} {ext : FuncId → Option Ext}
set_option linter.unusedVariables false
noncomputable def Zj2 (live temps : List Nat) (ys : List Tmp) (r : Option (Ex × Tr Value × St × List Tmp × Option Ex)) : Option (Ex × Nat × List (Option Value) × List (Option AObj) × List (Bool × Bool)) :=
 match r with
 | some (e, T, s, ys', some (.exit i)) => bif Nat.ble s.n 1000000000 && Zi (fun t => ZdP t ys') ys then some (e, i, temps.map T.get, live.map s.h.get, s.ob) else none
 | _ => none
theorem Zmf {live temps : List Nat} {ys : List Tmp} {r : Option (Ex × Tr Value × St × List Tmp × Option Ex)} {e : Ex} {i : Nat} {tv : List (Option Value)} {bl : List (Option AObj)} {ob : List (Bool × Bool)} (h : Zj2 live temps ys r = some (e, i, tv, bl, ob)) :
  ∃ T s ys', r = some (e, T, s, ys', some (.exit i)) ∧ (∀ t ∈ ys, t ∈ ys') ∧ temps.map T.get = tv ∧ live.map s.h.get = bl ∧ s.ob = ob ∧ s.n ≤ far := by
 unfold Zj2 at h
 split at h
 ·rename_i e T s ys' i'
  obtain ⟨hn, h⟩ := Zd h
  simp only [Bool.and_eq_true] at hn
  injection h with h
  simp only [Prod.mk.injEq] at h
  obtain ⟨rfl, rfl, rfl, rfl, rfl⟩ := h
  exact ⟨T, s, ys', rfl, fun t ht => Zcm.1 (Z1 hn.2 t ht), rfl, rfl, rfl, Nat.le_of_ble_eq_true hn.1⟩
 ·cases h
def Zlv (id0 : Nat) (P : Program) (ι : Ren) (h : AH) (w : World) (nt : Nat) (T : Tr Value) (Hf : Tr AObj) (mf : Nat) (ex : Exit) (a' : Act) (w' : World) : Prop :=
 ex = .exit id0 ∧ ∃ ι' K, Step P ι h w ι' Hf.get w' ∧ (∀ k, mf ≤ k → k < far → ι' k = none) ∧ w.heap.size ≤ K ∧ TR ι' nt [{ target := .collected K, args := #[] }] T a' ∧ w'.heap[K]? = some (.deferred (some [])) ∧ ∀ k b, ι' k = some b → b.1 ≠ K
theorem ZnB (F : Fit P ext) {nt m mf n1 gf id id0 fuA : Nat} {g : Operand} {ps : Array Tmp} {asg body cA cB : Code} {T : Tr Value} {h : Tr AObj} {ι : Ren} {a : Act} {w : World} {av bv : Array Value} {fn : Func}
  (hT : TR ι nt [] T a) (he : Emb P ι h.get w) (hd : ∀ k, ι k ≠ none → k < n1 ∨ Zah k)
  (hg : opnd T g = .func (.func gf) av bv) (hgd : ZbQ g = true) (hfn : P.funcs[gf]? = some fn) (hb : fn.body = some (.seq cA (.block id (.loop cB)))) (hsz : Nat.ble (av ++ #[Value.chan (some 0)] ++ bv).size fn.ntmps = true) (hres : fn.results.toList = [])
  (hm : m ≤ far) (hmf : mf ≤ far) {X : Type} (L : X → Nat → Option Value) (H : X → Tr AObj) (μ : X → Nat) (x0 : X) (ys : List Tmp) (Hf : Tr AObj)
  {orcA : Orc} {TA : Tr Value} {sA : St} {liveA : List Nat} {ysA : List Tmp} (hA : evI P ext fn.ntmps ⟨nt, T, ps, asg, body⟩ fuA cA (Zbi 0 (av ++ #[Value.chan (some 0)] ++ bv).toList .nil) ⟨h, n1, [], orcA, []⟩ [av.size] none = some (.normal, TA, sA, ysA, none)) (hAy : ∀ t ∈ ys, t ∈ ysA) (hAo : ∀ p ∈ sA.ob, p.1 = p.2) (hAn : sA.n ≤ far)
  (hAi : Zhy fn.ntmps m (L x0) (H x0) TA sA liveA) (hAk : Za0 n1 liveA = true)
  (hB : ∀ x gv, ∃ fu orc e T' s' ys' pe live, evI P ext fn.ntmps ⟨nt, T, ps, asg, body⟩ fu cB (tmps fn.ntmps (L x) gv) ⟨H x, m, [], orc, []⟩ ys none = some (e, T', s', ys', pe) ∧ (∀ t ∈ ys, t ∈ ys') ∧ (∀ p ∈ s'.ob, p.1 = p.2) ∧ s'.n ≤ far ∧ Za0 n1 live = true ∧
   ((e = .normal ∧ pe = none ∧ ∃ y, μ y < μ x ∧ Zhy fn.ntmps m (L y) (H y) T' s' live) ∨ (e = .exit id ∧ pe = some (.exit id0) ∧ Zhy fn.ntmps mf (fun _ => none) Hf T' s' live))) :
  (Code.rangeFunc g ps asg body).wpIn (Fr none) 0 P (Zlv id0 P ι h.get w nt T Hf mf) a w := by
 have hsz := Nat.le_of_ble_eq_true hsz
 have hgv : ∃ av' bv', Zar a g = .func (.func gf) av' bv' ∧ VRs ι av av' ∧ VRs ι bv bv' := by
  have hv := hg ▸ hT.opnd g
  generalize Zar a g = x' at hv
  cases hv with
  | atom h =>
   simp [Ev.atom] at h
   obtain ⟨rfl, rfl⟩ := h
   exact ⟨_, _, rfl, ⟨rfl, fun i x y hx => by simp at hx⟩, ⟨rfl, fun i x y hx => by simp at hx⟩⟩
  | func hs ht h1 h2 => exact ⟨_, _, rfl, ⟨hs, h1⟩, ⟨ht, h2⟩⟩
 obtain ⟨av', bv', hgv, hav, hbv⟩ := hgv
 have hgv : a.eval g = .func (.func gf) av' bv' := by
  cases g with
  | const v => simp only [ZbQ] at hgd; simpa [Zar, hgd, Act.eval] using hgv
  | _ => exact hgv
 refine wpIn_rangeFunc ?_
 intro fn0 _
 obtain ⟨R, hRd⟩ : ∃ R : Loop, R = { state := .ready, pending := none, fn := fn0, tmps := a.tmps, params := ps, assign := asg, body, defers := w.heap.size } := ⟨_, rfl⟩
 obtain ⟨W1, hW1⟩ : ∃ W1, (w.alloc (.deferred (some []))).alloc (.loop R) = W1 := ⟨_, rfl⟩
 have hL1 : W1.heap[w.heap.size + 1]? = some (.loop (Rp R none)) := by
  rw [show Rp R none = R by rw [hRd]; rfl]
  rw [← hW1]; have := World.alloc_heap_new (w.alloc (.deferred (some []))) (.loop R); rwa [World.size_alloc] at this
 have hK1 : W1.heap[w.heap.size]? = some (.deferred (some [])) := by
  rw [← hW1]; exact (Below.heap_alloc _ _ _ (by simp)).trans (World.alloc_heap_new w _)
 have hb1 : Below w.heap.size w W1 := by
  rw [← hW1]; exact ((Below.refl _ w).alloc (Nat.le_refl _) _).alloc (by simp) _
 have hT0 : TR ι nt [] T { tmps := a.tmps, defers := [] } := ⟨hT.1, rfl, hT.2.2⟩
 have I1 : IS P ι h.get w 0 nt T a (w.heap.size + 1) w.heap.size (Rp R none) ι ⟨h, n1, [], orcA, []⟩ W1 :=
  ⟨Step.below he hb1, Dom.refl, Nat.zero_le _, hT0, hL1, hK1, by omega, by omega, fun k b hk => by have := he.lt k b hk; omega⟩
 have hargs : VRs ι (av ++ #[Value.chan (some 0)] ++ bv) (av' ++ #[Value.func (.yield (w.heap.size + 1)) #[] #[]] ++ bv') :=
  Zbj (Zbj hav ⟨rfl, fun i x y hx hy => by
   cases i with
   | zero => simp at hx hy; rw [← hx, ← hy]; exact .glob rfl
   | succ i => simp at hx⟩) hbv
 have hR : R.tmps = a.tmps ∧ R.params = (⟨nt, T, ps, asg, body⟩ : Cx).ps ∧ R.assign = (⟨nt, T, ps, asg, body⟩ : Cx).asg ∧ R.body = (⟨nt, T, ps, asg, body⟩ : Cx).body := ⟨by rw [hRd], by rw [hRd], by rw [hRd], by rw [hRd]⟩
 refine ⟨w.heap.size + 1, [{ target := .collected w.heap.size, args := #[] }], W1, { target := .fn (.func gf) bv', args := av' ++ #[.func (.yield (w.heap.size + 1)) #[] #[]] }, W1, gf,
  av' ++ #[.func (.yield (w.heap.size + 1)) #[] #[]] ++ bv', W1, ?_, ?_, fun _ _ => trivial, ?_, fun e => (by cases e), ?_⟩
 ·rw [← hW1, hRd]; exact run_enterLoop_outer _ _ _ _ _
 ·simp only [resolve, hgv]
  simp [go_sem, Deferred.ofValue]
 ·simp [invoke, ZaP hfn (F.go gf fn hfn) hb]
 ·refine callsIn_of_wp_marks hfn hb trivial (wpIn_seq ?_)
  refine wpIn_mono ((Ziz (R := R) (cx := ⟨nt, T, ps, asg, body⟩) (ac := a) F hR fuA).1 cA _ ⟨h, n1, [], orcA, []⟩ _ none .normal TA sA ysA none hA hAo ι _ W1 (ZcL hargs hsz) ?_ I1 ⟨hAn, fun k h1 h2 => by
   cases hk : ι k with
   | none => rfl
   | some b => exact absurd (hd k (by rw [hk]; simp)) (by have h3 : n1 ≤ k := h1; have h4 : k < sA.n := h2; have h5 : sA.n ≤ 1000000000 := hAn; unfold Zah; omega)⟩) ?_
  ·intro t ht
   rw [List.mem_singleton] at ht
   subst ht
   have hs := hav.1
   rw [Array.getD_eq_getD_getElem?, Array.getElem?_append_left (by simp; omega), Array.getElem?_append_left (by simp; omega), Array.getElem?_append_right (by omega)]
   simp [hs]
  ·rintro ex a1 w1 ⟨rfl, ι1, g1, gY', I2, _⟩
   have gY : YS (w.heap.size + 1) ys a1 := fun t ht => gY' t (hAy t ht)
   refine wpIn_block ?_
   obtain ⟨gv, ι2, k1, k2, k3⟩ := IS.into hm hAi hAk hd hT0 g1 I2 orcA
   have key : ∀ n x, μ x ≤ n → ∀ gv a1 w1 ι1 orc, TR ι1 fn.ntmps [] (tmps fn.ntmps (L x) gv) a1 → YS (w.heap.size + 1) ys a1 → IS P ι h.get w 0 nt T a (w.heap.size + 1) w.heap.size (Rp R none) ι1 ⟨H x, m, [], orc, []⟩ w1 → (∀ k, m ≤ k → k < far → ι1 k = none) →
     Code.roundsIn (Fr none) 0 P cB (Exit.inBlock id (bodyPostM (Fr none) (0 - 1) P fn (rangePost (Fr none) 0 P (w.heap.size + 1) (Zlv id0 P ι h.get w nt T Hf mf) { a with defers := [{ target := .collected w.heap.size, args := #[] }] ++ a.defers }))) (n + 1) a1 w1 := by
    intro n
    induction n using Nat.strongRecOn with
    | _ n ih =>
    intro x hx gv a1 w1 ι1 orc0 q1 qY q2 q3
    obtain ⟨fu, orc, e, T', s', ys', pe, live, hev, hyy, hob, hfar, hkeep, hcase⟩ := hB x gv
    rw [roundsIn_succ]
    have q2' : IS P ι h.get w 0 nt T a (w.heap.size + 1) w.heap.size (Rp R none) ι1 ⟨H x, m, [], orc, []⟩ w1 := ⟨q2.st, q2.dm, q2.hn, q2.tr, q2.lo, q2.de, q2.ll, q2.lk, q2.nl⟩
    refine wpIn_mono ((Ziz (R := R) (cx := ⟨nt, T, ps, asg, body⟩) (ac := a) F hR fu).1 cB _ ⟨H x, m, [], orc, []⟩ ys none e T' s' ys' pe hev hob ι1 a1 w1 q1 qY q2' ⟨hfar, fun k h1 h2 => q3 k h1 (by have : k < s'.n := h2; omega)⟩) ?_
    rintro ex a2 w2 ⟨rfl, ι2, r1, rY', r2, _⟩
    have rY : YS (w.heap.size + 1) ys a2 := fun t ht => rY' t (hyy t ht)
    rcases hcase with ⟨rfl, rfl, y, hy, hi⟩ | ⟨rfl, rfl, hi⟩
    ·obtain ⟨gv', ι3, u1, u2, u3⟩ := IS.into hm hi hkeep hd hT0 r1 r2 orc
     cases n with
     | zero => omega
     | succ n => exact ih n (by omega) y (by omega) gv' a2 w2 ι3 orc u1 rY u2 u3
    ·obtain ⟨gv', ι3, u1, u2, u3⟩ := IS.into hmf hi hkeep hd hT0 r1 r2 orc
     show if id = id then _ else _
     rw [if_pos rfl]
     show LeavesInM (Fr none) (0 - 1) P fn a2.tmps _ a2.defers .returning w2
     rw [u1.2.1]
     obtain ⟨v', hrun, _⟩ := ZaB (s := ⟨Hf, mf, [], orc, []⟩) (fn := fn) (v := .tuple #[]) u1 u2.st.emb (by rw [hres]; rfl)
     have hr := run_endLoop (P := P) u2.lo (by simp [Rp])
     have I3 := u2.put { Rp R (some (.exit id0)) with state := .exhausted }
     refine ⟨v', hrun, _, _, hr, ?_⟩
     refine wpIn_exit ?_
     exact ⟨rfl, ι3, w.heap.size, I3.st, u3, Nat.le_refl _, ⟨I3.tr.1, by rw [hT.2.1]; rfl, I3.tr.2.2⟩, I3.de, fun k b hk => (I3.nl k b hk).2⟩
   exact wpIn_loop_rounds (μ x0 + 1) (key (μ x0) x0 (Nat.le_refl _) gv a1 w1 ι2 orcA k1 gY k2 k3)
theorem ZkT (F : Fit P ext) {f : FuncId} {fn : Func} {cs : List Code} {c5 tail asg body : Code} {id0 : Nat} {g : Operand} {ps : Array Tmp} {A : Array Value} {pre : List AObj} {v : Value} {post : List (Option AObj)}
  (hfn : P.funcs[f]? = some fn) (hb : fn.body = some (Zn7 cs (.seq (.seq c5 (.block id0 (.rangeFunc g ps asg body))) tail))) (hA : Nat.ble A.size fn.ntmps = true) (hle : post.length ≤ far)
  (lt5 : List (Nat × Value)) (H5 : List (Option AObj)) {fu1 : Nat} {orc1 : Orc} {live1 : List Nat} {tv1 : List (Option Value)} {bl1 : List (Option AObj)} {ob1 : List (Bool × Bool)}
  (h1 : Zn8 live1 (lt5.map (·.1)) (evL P ext fn.ntmps fu1 (cs ++ [c5]) (Zbi 0 A.toList .nil) ⟨ZbO 0 pre, pre.length, [], orc1, []⟩) = some (tv1, bl1, ob1)) (o1 : ∀ p ∈ ob1, p.1 = p.2) (l1 : live1.length = H5.length) (nd1 : live1.Nodup) (k1 : Za0 pre.length live1 = true) (t1 : ZbX (rho live1 far) tv1 lt5) (b1 : ZT (rho live1 far) bl1 H5)
  (hm5 : H5.length ≤ far) (hp5 : pre.length ≤ H5.length) (u5 : ∀ x ∈ lt5, Zcb H5.length 3 x.2 = true) (ua5 : ZeI H5.length H5)
  {gf id : Nat} {av bv : Array Value} {fnI : Func} {cA cB : Code} (hg : ∀ gv, opnd (tmps fn.ntmps (fun t => Zz t lt5) gv) g = .func (.func gf) av bv) (hgd : ZbQ g = true) (hfnI : P.funcs[gf]? = some fnI) (hbI : fnI.body = some (.seq cA (.block id (.loop cB))))
  (hszI : Nat.ble (av ++ #[Value.chan (some 0)] ++ bv).size fnI.ntmps = true) (hresI : fnI.results.toList = [])
  {X R : Type} (step : X → Option (X ⊕ R)) (L : X → List (Nat × Value)) (H : X → List (Option AObj)) {m : Nat} (hHm : ∀ x, (H x).length = m) (hm : m ≤ far) (ys : List Tmp) (HF : List (Option AObj)) (hmf : HF.length ≤ far)
  (r : R) (x0 : X) (N : Nat) (hit : Zam step N x0 = some r)
  (hAe : ∀ gv, ∃ fu orc live tv bl ob, Zkp live ((L x0).map (·.1)) ys (evI P ext fnI.ntmps ⟨fn.ntmps, tmps fn.ntmps (fun t => Zz t lt5) gv, ps, asg, body⟩ fu cA (Zbi 0 (av ++ #[Value.chan (some 0)] ++ bv).toList .nil) ⟨ZaA 0 H5, H5.length, [], orc, []⟩ [av.size] none) = some (.normal, tv, bl, ob) ∧ (∀ p ∈ ob, p.1 = p.2) ∧ live.length = m ∧ live.Nodup ∧ Za0 H5.length live = true ∧ ZbX (rho live far) tv (L x0) ∧ ZT (rho live far) bl (H x0))
  (hBx : ∀ x o, step x = some o → ∀ gv gvc, match o with
   | .inl y => ∃ fu orc live tv bl ob, Zkp live ((L y).map (·.1)) ys (evI P ext fnI.ntmps ⟨fn.ntmps, tmps fn.ntmps (fun t => Zz t lt5) gvc, ps, asg, body⟩ fu cB (tmps fnI.ntmps (fun t => Zz t (L x)) gv) ⟨ZaA 0 (H x), m, [], orc, []⟩ ys none) = some (.normal, tv, bl, ob) ∧ (∀ p ∈ ob, p.1 = p.2) ∧ live.length = m ∧ live.Nodup ∧ Za0 H5.length live = true ∧ ZbX (rho live far) tv (L y) ∧ ZT (rho live far) bl (H y)
   | .inr r' => r' = r → ∃ fu orc live bl ob, Zj2 live [] ys (evI P ext fnI.ntmps ⟨fn.ntmps, tmps fn.ntmps (fun t => Zz t lt5) gvc, ps, asg, body⟩ fu cB (tmps fnI.ntmps (fun t => Zz t (L x)) gv) ⟨ZaA 0 (H x), m, [], orc, []⟩ ys none) = some (.exit id, id0, [], bl, ob) ∧ (∀ p ∈ ob, p.1 = p.2) ∧ live.length = HF.length ∧ live.Nodup ∧ Za0 H5.length live = true ∧ ZT (rho live far) bl HF)
  (hTl : ∀ gv, ∃ fu orc live u bl ob, Zn9 P fn live (Zv P ext fn.ntmps fu tail (tmps fn.ntmps (fun t => Zz t lt5) gv) ⟨ZaA 0 HF, HF.length, [], orc, []⟩) = some (u, bl, ob) ∧ (∀ p ∈ ob, p.1 = p.2) ∧ live.length = post.length ∧ live.Nodup ∧ Za0 pre.length live = true ∧ (v = ZG (rho live far) 3 u ∧ Z4 3 u = true) ∧ ZT (rho live far) bl post) :
  LSpec P f A pre v post := by
 intro ι w args' hd ha he
 refine (callsIn_wide (n := 0)).1 (callsIn_of_wp_marks hfn hb trivial ?_)
 obtain ⟨T5, s5, e5, rfl, rfl, rfl, n5⟩ := ZmP h1
 obtain ⟨T4, s4, e4, e5'⟩ := Zkq cs _ _ _ _ e5
 have u4 := ZnA F cs _ _ _ _ e4
 have u5' := (Zaw (P := P) (ext := ext) (fun f g hg => (F.hp f g hg).up) fu1).1 _ _ _ _ _ _ _ e5'
 have hfr : Fresh ι pre.length s5.n := ⟨n5, fun k h1 h2 => by
  cases hk : ι k with
  | none => rfl
  | some b => exact absurd (hd k (by rw [hk]; simp)) (by have h3 : pre.length ≤ k := h1; have h4 : s5.n ≤ 1000000000 := n5; unfold Zah; omega)⟩
 refine Zlu F cs _ _ T4 s4 e4 (ZD u5'.ob o1) ι [] _ w (ZcL ha (Nat.le_of_ble_eq_true hA)) (by show Emb P ι (ZbO 0 pre).get w; rw [ZcA]; exact he) (hfr.mono (Nat.le_refl _) u5'.n) ?_
 intro ι4 a4 w4 g1 g2 g3
 refine wpIn_seq (wpIn_seq ((wpIn_wide (n := 0)).2 (wp_mono ((ZaX F fu1).1 fn.ntmps c5 T4 s4 .normal T5 s5 e5' o1 ι4 [] a4 w4 g3 g1.emb (hfr.after g2 u4.n)) ?_)))
 rintro ex a5 w5 ⟨rfl, ι5, k2, k3, k4⟩
 have S5 : Step P ι (lk pre) w ι5 s5.h.get w5 := by
  have := g1.trans k2
  simp only [ZcA] at this
  exact this
 have hi := ZcB (nt := fn.ntmps) l1 nd1 t1 b1
 obtain ⟨gv0, ι6, a1, a2, a3, _⟩ := Zhx k4 S5 live1 H5.length far rfl (Zf8 k1) hi.1 hm5 hi.2.1 (fun k hk2 => (hd k hk2).imp (Zed k1) (fun q => q)) (fun t => Zz t lt5) hi.2.2.1 (ZaA 0 H5).get hi.2.2.2
 obtain ⟨gv, TRc, Sc⟩ := Zo7 (Nat.le_refl H5.length) hp5 hd u5 ua5 a1 a2
 have hdc : ∀ k, (fun k => if k < H5.length ∨ Zah k then ι6 k else none) k ≠ none → k < H5.length ∨ Zah k := fun k hk => by
  by_cases h : k < H5.length ∨ Zah k
  ·exact h
  ·exact absurd (if_neg h) hk
 obtain ⟨fuA, orcA, liveA, tvA, blA, obA, hevA, hoA, hlA, hndA, hkA, htA, hbA⟩ := hAe gv
 obtain ⟨TA, sA, ysA, eA, hyA, rfl, rfl, rfl, nA⟩ := ZiW hevA
 refine wpIn_block (wpIn_mono (ZnB (id0 := id0) F (h := ZaA 0 H5) (n1 := H5.length) (m := m) (mf := HF.length) TRc Sc.emb hdc (hg gv) hgd hfnI hbI hszI hresI hm hmf (X := {p : X × Nat // Zam step p.2 p.1 = some r}) (fun p => fun t => Zz t (L p.1.1)) (fun p => ZaA 0 (H p.1.1)) (fun p => p.1.2) ⟨(x0, N), hit⟩ ys (ZaA 0 HF) eA hyA hoA nA (ZcB hlA hndA htA hbA) hkA ?_) ?_)
 ·rintro ⟨⟨x, n⟩, hn⟩ gvx
  simp only at hn ⊢
  cases n with
  | zero => cases hn
  | succ n =>
   rw [Zam] at hn
   cases hs : step x with
   | none => rw [hs] at hn; cases hn
   | some o =>
    rw [hs] at hn
    have hx := hBx x o hs gvx gv
    cases o with
    | inl y =>
     obtain ⟨fu, orc, live, tv, bl, ob, hev, hob, hl, hnd, hk, ht, hbl⟩ := hx
     obtain ⟨T', s', ys', e', hy', rfl, rfl, rfl, n'⟩ := ZiW hev
     exact ⟨fu, orc, .normal, T', s', ys', none, live, e', hy', hob, n', hk, .inl ⟨rfl, rfl, ⟨(y, n), hn⟩, Nat.lt_succ_self _, ZcB (hl.trans rfl) hnd ht hbl⟩⟩
    | inr r' =>
     have hr : r' = r := by simpa using hn
     obtain ⟨fu, orc, live, bl, ob, hev, hob, hl, hnd, hk, hbl⟩ := hx hr
     obtain ⟨T', s', ys', e', hy', _, rfl, rfl, n'⟩ := Zmf hev
     refine ⟨fu, orc, .exit id, T', s', ys', some (.exit id0), live, e', hy', hob, n', hk, .inr ⟨rfl, rfl, ?_⟩⟩
     have := ZcB (nt := fnI.ntmps) (T := T') (lt := []) hl hnd trivial hbl
     exact this
 ·rintro ex a6 w6 ⟨rfl, ι7, K, q1, q2, q3, q4, q5, q6⟩
  show (if id0 = id0 then _ else _)
  rw [if_pos rfl]
  obtain ⟨fuT, orcT, liveT, u, blT, obT, hevT, hoT, hlT, hndT, hkT, hvT, hbT⟩ := hTl gv
  obtain ⟨e3, T3, s3, eT, he3, hres, rfl, rfl, nT⟩ := ZmQ hevT
  show tail.wpIn (Fr none) 0 P _ a6 w6
  refine (wpIn_wide (n := 0)).2 (wp_mono ((ZaX F fuT).1 fn.ntmps tail _ ⟨ZaA 0 HF, HF.length, [], orcT, []⟩ e3 T3 s3 eT hoT ι7 _ a6 w6 q4 q1.emb ⟨nT, fun k h1 h2 => q2 k h1 (by omega)⟩) ?_)
  rintro ex a7 w7 ⟨rfl, ι8, r1, r2, r3⟩
  obtain ⟨p1, p2⟩ := Zf9 r1 (Array.getElem?_eq_some_iff.1 q5).1 q6
  have S8 : Step P ι (lk pre) w ι8 s3.h.get (w7.putObj K (.deferred none)) := ((Sc.trans q1).trans r1).put (Nat.le_trans Sc.size q3) p1 _
  have fin : LeavesInM (Fr none) 0 P fn a7.tmps (Fin P ι pre w v post) a7.defers .returning w7 := by
   rw [r3.2.1]
   obtain ⟨v', hrun, hv⟩ := ZaB r3 S8.emb hres
   exact ⟨by simp, .inl ⟨K, _, rfl, run_takeDeferred (p2.trans q5), v', hrun, ZhQ hle hd ⟨hlT, hndT, hkT, hvT, Zcg hbT⟩ S8 hv⟩⟩
  rcases he3 with rfl | rfl
  ·exact fin
  ·exact fin
end
end Ev
end Go.Proofs.YtgbiifdcabmffaaGreat
/- Calls do what the plain functions say. -/
namespace Go.Proofs.YtgbiifdcabmffaaGreat
open Go.RowKit
namespace Ev
set_option linter.unusedVariables false
set_option maxRecDepth 100000
noncomputable def Zkr (a0 a1 : Int) : fair_RoundsR → Value
 | .r0 => vn
 | .r1 w0 => vs 0 0 w0.length w0.length
 | .r2 w0 w1 => vs 0 0 w1 w1
noncomputable def Zjj (a0 a1 : Int) : fair_RoundsR → List (Option AObj)
 | .r0 => []
 | .r1 w0 => [some (.cells (Zc eI w0) 3)]
 | .r2 w0 w1 => [some (.cells (Zc eI w0) 3)]

noncomputable def ZfS : Nat × Code := match (Tryz.f16).body with
 | some (.seq _ (.block id (.loop cB))) => (id, cB)
 | _ => (0, .skip)
noncomputable def ZfT : Code × Code := match (Tryz.f4).body with
 | some (.seq _ (.seq _ (.seq _ (.seq (.seq _ (.block _ (.rangeFunc _ _ asg body))) _)))) => (asg, body)
 | _ => (.skip, .skip)
noncomputable def outD (live : List Nat) (r : Out) : Option (Value × List (Option AObj) × List (Bool × Bool)) :=
 match r with
 | some (u, s) => bif Nat.ble s.n 1000000000 then some (u, live.map s.h.get, s.ob) else none
 | none => none
theorem Zeh {P : Program} {f : FuncId} {g : Array Value → St → Out} (hd : Zhu P f g) {A : Array Value} {pre : List AObj} {v u : Value} {post : List (Option AObj)} {orc : Orc} {live : List Nat} {bl : List (Option AObj)} {ob : List (Bool × Bool)} (hev : outD live (g A ⟨ZbO 0 pre, pre.length, [], orc, []⟩) = some (u, bl, ob)) (ho : ∀ p ∈ ob, p.1 = p.2) (hle : post.length ≤ far)
  (hl : live.length = post.length) (hn : live.Nodup) (hk : Za0 pre.length live = true) (hv : v = ZG (rho live far) 3 u ∧ Z4 3 u = true) (hbl : ZT (rho live far) bl post) : LSpec P f A pre v post := by
 intro ι w args' hdm ha he
 unfold outD at hev
 split at hev
 · rename_i u' s h1
   obtain ⟨hnn, hev⟩ := Zd hev
   injection hev with hev; simp only [Prod.mk.injEq] at hev; obtain ⟨rfl, rfl, rfl⟩ := hev
   refine (hd.does A _ u' s h1 ho ι w args' ha (by show Emb P ι (ZbO 0 pre).get w; rw [ZcA]; exact he) ⟨Nat.le_of_ble_eq_true hnn, fun k k1 k2 => by
    cases hk2 : ι k with
    | none => rfl
    | some b => exact absurd (hdm k (by rw [hk2]; simp)) (by have h3 : pre.length ≤ k := k1; have h4 : k < s.n := k2; have h5 : s.n ≤ 1000000000 := Nat.le_of_ble_eq_true hnn; unfold Zah; omega)⟩).mono ?_
   rintro e w' ⟨v', ι', rfl, g1, _, g3⟩
   exact ZhQ hle hdm ⟨hl, hn, hk, hv, Zcg hbl⟩ (by have := g1; simp only [ZcA] at this; exact this) g3
 · cases hev
theorem Zks {X R : Type} {step : X → Option (X ⊕ R)} {Q : R → Prop} (h : ∀ x r, step x = some (.inr r) → Q r) : ∀ n x r, Zam step n x = some r → Q r
 | 0, x, r, e => by cases e
 | n + 1, x, r, e => by
  rw [Zam] at e
  cases hs : step x with
  | none => rw [hs] at e; cases e
  | some o =>
   rw [hs] at e
   cases o with
   | inl y => exact Zks h n y r e
   | inr r' => obtain rfl : r' = r := by simpa using e
               exact h x _ hs
noncomputable def Zcc (a0 a1 : Int) : ZM → List (Option AObj)
 | .h1m0 v0 v3 v4 => [some (.cells [vi a0] 3), some (.cells [vi a1] 3), some (.cells [vs 4 0 v4 ((IntKind.i64.wrap (a0 * a1))).toNat] 22), some (.cells [vi a0] 3), some (.cells (Zc eI v3) 3)]
noncomputable def Zcr : ZM → List (Nat × Value)
 | .h1m0 v0 v3 v4 => [(1, vp 3 0), (3, vi v0)]
noncomputable def ZcW : List (Nat × Value) := [(2, vp 0 0), (3, vp 1 0), (5, vp 2 0), (23, .func (.func 16) #[] #[vp 3 0])]
noncomputable def ZfU (a0 a1 : Int) (w0 : List Int) (w1 : Nat) : List (Option AObj) := [some (.cells [vi a0] 3), some (.cells [vi a1] 3), some (.cells [vs 4 0 w1 ((IntKind.i64.wrap (a0 * a1))).toNat] 22), some (.cells [vi a0] 3), some (.cells (Zc eI w0) 3)]
theorem ZdL (a0 a1 : Int) (N : Nat) (w0 : List Int) (w1 : Nat) (x : ZM) (o : ZM ⊕ fair_RoundsR) (hs : Zal a0 a1 N x = some o) (gv gvc : Nat → Value) (ps : Array Tmp) (asg body : Code) (id : Nat) (cB : Code)
  (hps : ps = #[24]) (hcode : (id, cB) = ZfS) (hab : (asg, body) = ZfT) : match o with
      | .inl y => ∃ fu orc live tv bl ob, Zkp live ((Zcr y).map (·.1)) [0] (evI Tryz.prog Zh1 (Tryz.f16).ntmps ⟨(Tryz.f4).ntmps, tmps (Tryz.f4).ntmps (fun t => Zz t ZcW) gvc, ps, asg, body⟩ fu cB (tmps (Tryz.f16).ntmps (fun t => Zz t (Zcr x)) gv) ⟨ZaA 0 (Zcc a0 a1 x), 5, [], orc, []⟩ [0] none) = some (.normal, tv, bl, ob) ∧ (∀ p ∈ ob, p.1 = p.2) ∧ live.length = 5 ∧ live.Nodup ∧ Za0 5 live = true ∧ ZbX (rho live far) tv (Zcr y) ∧ ZT (rho live far) bl (Zcc a0 a1 y)
      | .inr r' => r' = .r2 w0 w1 → ∃ fu orc live bl ob, Zj2 live [] [0] (evI Tryz.prog Zh1 (Tryz.f16).ntmps ⟨(Tryz.f4).ntmps, tmps (Tryz.f4).ntmps (fun t => Zz t ZcW) gvc, ps, asg, body⟩ fu cB (tmps (Tryz.f16).ntmps (fun t => Zz t (Zcr x)) gv) ⟨ZaA 0 (Zcc a0 a1 x), 5, [], orc, []⟩ [0] none) = some (.exit id, 0, [], bl, ob) ∧ (∀ p ∈ ob, p.1 = p.2) ∧ live.length = 5 ∧ live.Nodup ∧ Za0 5 live = true ∧ ZT (rho live far) bl (ZfU a0 a1 w0 w1) := by
 subst hps
 simp only [ZfS, ZfT, Prod.mk.injEq] at hcode hab
 obtain ⟨rfl, rfl⟩ := hcode
 obtain ⟨rfl, rfl⟩ := hab
 cases x with
 | h1m0 v0 v3 v4 =>
 have hs : ZY a0 a1 N v0 v3 v4 = some o := hs
 unfold ZY at hs
 by_cases g0 : (v4 + 1) ≤ ((IntKind.i64.wrap (a0 * a1))).toNat
 · rw [if_pos g0] at hs
   by_cases g1 : v4 < v3.length
   · rw [if_pos g1] at hs
     by_cases g2 : (((v4 + 1) : Nat) : Int) = (IntKind.i64.wrap (a0 * a1))
     · rw [if_pos g2] at hs
       obtain rfl := Option.some.inj hs
       intro e
       injection e with e1 e2
       subst e1 e2
       exact ⟨4000, (Zn [(0, true)] [] [] [] [(0, .api 1 [vi v0] (Zc eI (v3.set v4 v0)))]), [0, 1, 2, 3, 4], [some (.cells [vi a0] 3), some (.cells [vi a1] 3), some (.cells [vs 4 0 (v4 + 1) ((IntKind.i64.wrap (a0 * a1))).toNat] 22), some (.cells [vi a0] 3), some (.cells (Zc eI (v3.set v4 v0)) 3)], [(((((v4 + 1) : Nat) : Int) == (IntKind.i64.wrap (a0 * a1))), true), (dP (((1 = 1 ∧ Zo (1 * 1) (List.drop 0 [vi v0]) = some [vi v0] ∧ Zi Za9 [vi v0] = true) ∧ Zi Za9 [vi v0] = true) ∧ 0 < 1 ∧ 1 ≤ 100000 ∧ v4 + 1 ≤ ((IntKind.i64.wrap (a0 * a1))).toNat ∧ (0 + v4 * 1 + ([vi v0] : List Value).length ≤ ((Zc eI v3) : List Value).length ∧ Zbh (Zc eI v3) (0 + v4 * 1) [vi v0] = (Zc eI (v3.set v4 v0)))), true)], by kernel_rfl, (oT <| Za (Zh ⟨⟨⟨rfl, ⟨rfl, rfl⟩⟩, rfl⟩, by omega, by omega, by omega, (Zbx (E := eI) (L := v3) (i := v4) (q := 0) (l := [vi v0]) v0 (by omega) (show 0 + v4 * 1 = v4 * 1 + 0 from by omega) (show 0 + 1 ≤ 1 from by decide) rfl)⟩) Zf), rfl, by decide, by rfl, ⟨⟨rfl, ⟨[], by rfl⟩, by rfl⟩, ⟨⟨rfl, ⟨[], by rfl⟩, by rfl⟩, ⟨⟨rfl, ⟨[], by rfl⟩, by rfl⟩, ⟨⟨rfl, ⟨[], by rfl⟩, by rfl⟩, ⟨(Zj (E := eI) (α := Int) _ (v3.set v4 v0) _), trivial⟩⟩⟩⟩⟩⟩
     · rw [if_neg g2] at hs
       by_cases g3 : ¬ (a0 = (0 : Int))
       · rw [if_pos g3] at hs
         obtain rfl := Option.some.inj hs
         exact ⟨4000, (Zn [(0, false)] [] [] [] [(0, .api 1 [vi v0] (Zc eI (v3.set v4 v0))), (2, .dv)]), [0, 1, 2, 3, 4], [some (vp 3 0), some (vi (Int.tmod (IntKind.i64.wrap (v0 + (1 : Int))) a0))], [some (.cells [vi a0] 3), some (.cells [vi a1] 3), some (.cells [vs 4 0 (v4 + 1) ((IntKind.i64.wrap (a0 * a1))).toNat] 22), some (.cells [vi a0] 3), some (.cells (Zc eI (v3.set v4 v0)) 3)], [(dP (IntKind.i64 = IntKind.i64 ∧ a0 ≠ 0), true), (((((v4 + 1) : Nat) : Int) == (IntKind.i64.wrap (a0 * a1))), false), (dP (((1 = 1 ∧ Zo (1 * 1) (List.drop 0 [vi v0]) = some [vi v0] ∧ Zi Za9 [vi v0] = true) ∧ Zi Za9 [vi v0] = true) ∧ 0 < 1 ∧ 1 ≤ 100000 ∧ v4 + 1 ≤ ((IntKind.i64.wrap (a0 * a1))).toNat ∧ (0 + v4 * 1 + ([vi v0] : List Value).length ≤ ((Zc eI v3) : List Value).length ∧ Zbh (Zc eI v3) (0 + v4 * 1) [vi v0] = (Zc eI (v3.set v4 v0)))), true)], by kernel_rfl, (Za (Zh ⟨rfl, by omega⟩) <| oF <| Za (Zh ⟨⟨⟨rfl, ⟨rfl, rfl⟩⟩, rfl⟩, by omega, by omega, by omega, (Zbx (E := eI) (L := v3) (i := v4) (q := 0) (l := [vi v0]) v0 (by omega) (show 0 + v4 * 1 = v4 * 1 + 0 from by omega) (show 0 + 1 ≤ 1 from by decide) rfl)⟩) Zf), rfl, by decide, by rfl, ⟨rr, ⟨rr, trivial⟩⟩, ⟨⟨rfl, ⟨[], by rfl⟩, by rfl⟩, ⟨⟨rfl, ⟨[], by rfl⟩, by rfl⟩, ⟨⟨rfl, ⟨[], by rfl⟩, by rfl⟩, ⟨⟨rfl, ⟨[], by rfl⟩, by rfl⟩, ⟨(Zj (E := eI) (α := Int) _ (v3.set v4 v0) _), trivial⟩⟩⟩⟩⟩⟩
       · rw [if_neg g3] at hs; cases hs
   · rw [if_neg g1] at hs; cases hs
 · rw [if_neg g0] at hs; cases hs
theorem Zh6 (a0 a1 : Int) (N : Nat) : ∀ x r, Zal a0 a1 N x = some (.inr r) → ∃ (w0 : List Int) (w1 : Nat), r = .r2 w0 w1 ∧ (w1 : Int) = (IntKind.i64.wrap (a0 * a1)) := by
 intro x r hs
 cases x with
 | h1m0 v0 v3 v4 =>
 have hs : ZY a0 a1 N v0 v3 v4 = some (.inr r) := hs
 unfold ZY at hs
 by_cases g0 : (v4 + 1) ≤ ((IntKind.i64.wrap (a0 * a1))).toNat
 · rw [if_pos g0] at hs
   by_cases g1 : v4 < v3.length
   · rw [if_pos g1] at hs
     by_cases g2 : (((v4 + 1) : Nat) : Int) = (IntKind.i64.wrap (a0 * a1))
     · rw [if_pos g2] at hs
       obtain rfl := Sum.inr.inj (Option.some.inj hs)
       exact ⟨_, _, rfl, g2⟩
     · rw [if_neg g2] at hs
       by_cases g3 : ¬ (a0 = (0 : Int))
       · rw [if_pos g3] at hs; cases hs
       · rw [if_neg g3] at hs; cases hs
   · rw [if_neg g1] at hs; cases hs
 · rw [if_neg g0] at hs; cases hs
theorem Zia (a0 a1 : Int) (N : Nat) (w0 : List Int) (w1 : Nat) (g0 : (1 : Int) ≤ a0) (g1 : a0 ≤ (64 : Int)) (g2 : ¬ a1 < (1 : Int)) (g3 : ¬ (65536 : Int) < a1) (g4 : (0 : Int) ≤ (IntKind.i64.wrap (a0 * a1))) (g5 : (IntKind.i64.wrap (a0 * a1)) ≤ (100000 : Int)) (hq : (w1 : Int) = (IntKind.i64.wrap (a0 * a1))) (h : Zam (Zal a0 a1 N) N (.h1m0 (0 : Int) (List.replicate ((IntKind.i64.wrap (a0 * a1))).toNat (0 : Int)) 0 : ZM) = some (.r2 w0 w1)) : LSpec Tryz.prog 4 #[vi a0, vi a1] [] (vs 0 0 w1 w1) [some (.cells (Zc eI w0) 3)] := by
 refine ZkT (cs := [_, _, _]) ZfB Tryz.func4 rfl (by kernel_rfl) (Zac _ rfl)
  ZcW (Zcc a0 a1 (.h1m0 (0 : Int) (List.replicate ((IntKind.i64.wrap (a0 * a1))).toNat (0 : Int)) 0 : ZM)) (fu1 := 4000) (orc1 := (Zn [(0, true), (1, true), (3, false), (4, false)] [] [] [] [(0, .mk 0 ((IntKind.i64.wrap (a0 * a1))).toNat (Zc eI (List.replicate ((IntKind.i64.wrap (a0 * a1))).toNat (0 : Int))))])) (live1 := [0, 1, 3, 4, 2]) (tv1 := [some (vp 0 0), some (vp 1 0), some (vp 3 0), some (.func (.func 16) #[] #[vp 4 0])]) (bl1 := [some (.cells [vi a0] 3), some (.cells [vi a1] 3), some (.cells [vs 2 0 0 ((IntKind.i64.wrap (a0 * a1))).toNat] 22), some (.cells [vi a0] 3), some (.cells (Zc eI (List.replicate ((IntKind.i64.wrap (a0 * a1))).toNat (0 : Int))) 3)]) (ob1 := [(dP (0 ≤ ((IntKind.i64.wrap (a0 * a1))).toNat ∧ ((IntKind.i64.wrap (a0 * a1))).toNat ≤ 100000 ∧ Ev.rep [vq] (((IntKind.i64.wrap (a0 * a1))).toNat * 1) = (Zc eI (List.replicate ((IntKind.i64.wrap (a0 * a1))).toNat (0 : Int)))), true), ((IntKind.i64.wrap (a0 * a1)) == Int.ofNat ((IntKind.i64.wrap (a0 * a1))).toNat, true), ((0 : Int) == Int.ofNat 0, true), ((decide (a1 > (65536 : Int))), false), ((decide (a1 < (1 : Int))), false), ((decide (a0 ≤ (64 : Int))), true), ((decide (a0 ≥ (1 : Int))), true)])
  (by kernel_rfl) (Za (Zh ⟨by omega, by omega, Zkn (E := eI) (0 : Int) ((IntKind.i64.wrap (a0 * a1))).toNat (by decide) rfl rfl⟩) <| oI <| oI <| oN <| oN <| oY <| oY Zf) rfl (by decide) (by rfl) ⟨rr, ⟨rr, ⟨rr, ⟨rr, trivial⟩⟩⟩⟩ ⟨⟨rfl, ⟨[], by rfl⟩, by rfl⟩, ⟨⟨rfl, ⟨[], by rfl⟩, by rfl⟩, ⟨⟨rfl, ⟨[], by rfl⟩, by rfl⟩, ⟨⟨rfl, ⟨[], by rfl⟩, by rfl⟩, ⟨(Zj (E := eI) (α := Int) _ (List.replicate ((IntKind.i64.wrap (a0 * a1))).toNat (0 : Int)) _), trivial⟩⟩⟩⟩⟩
  (Zac _ rfl) (show 0 ≤ 5 from by decide) (fun x hx => Z1 (p := fun x : Nat × Value => Zcb 5 3 x.2) (l := ZcW) (by kernel_rfl) x hx) ⟨rfl, rfl, rfl, rfl, (ZbE _ _ _), trivial⟩
  (gf := 16) (av := #[]) (bv := #[vp 3 0]) (fun gv => by kernel_rfl) rfl Tryz.func16 rfl (by kernel_rfl) rfl
  (Zal a0 a1 N) Zcr (Zcc a0 a1) (m := 5) (fun x => by cases x; rfl) (Zac _ rfl) [0] (ZfU a0 a1 w0 w1) (Zac _ rfl) (.r2 w0 w1) _ N h
  (fun gv => ⟨4000, Zn [] [] [] [] [], [0, 1, 2, 3, 4], [some (vp 3 0), some vq], Zcc a0 a1 (.h1m0 (0 : Int) (List.replicate ((IntKind.i64.wrap (a0 * a1))).toNat (0 : Int)) 0 : ZM), [], by kernel_rfl, Zf, rfl, by decide, by rfl, ⟨rr, ⟨rr, trivial⟩⟩, ⟨⟨rfl, ⟨[], by rfl⟩, by rfl⟩, ⟨⟨rfl, ⟨[], by rfl⟩, by rfl⟩, ⟨⟨rfl, ⟨[], by rfl⟩, by rfl⟩, ⟨⟨rfl, ⟨[], by rfl⟩, by rfl⟩, ⟨(Zj (E := eI) (α := Int) _ (List.replicate ((IntKind.i64.wrap (a0 * a1))).toNat (0 : Int)) _), trivial⟩⟩⟩⟩⟩⟩)
  (fun x o hs gv gvc => by
   cases o with
   | inl y => exact ZdL a0 a1 N w0 w1 x (.inl y) hs gv gvc _ _ _ _ _ rfl rfl rfl
   | inr r' => exact ZdL a0 a1 N w0 w1 x (.inr r') hs gv gvc _ _ _ _ _ rfl rfl rfl) ?_
 intro gv
 exact ⟨4000, Zn [] [] [] [] [], [4], vs 4 0 w1 ((IntKind.i64.wrap (a0 * a1))).toNat, [some (.cells (Zc eI w0) 3)], [], by kernel_rfl, Zf, rfl, by decide, by rfl, ⟨Eq.trans (show (vs 0 0 w1 w1 : Value) = vs 0 0 w1 ((IntKind.i64.wrap (a0 * a1))).toNat from (Zn1 rfl rfl eqA)) (by rfl), by rfl⟩, ⟨(Zj (E := eI) (α := Int) _ w0 _), trivial⟩⟩
theorem Ze4 (a0 a1 : Int) (N : Nat) (r : fair_RoundsR) (h : Zax a0 a1 N = some r) : LSpec Tryz.prog 4 #[vi a0, vi a1] [] (Zkr a0 a1 r) (Zjj a0 a1 r) := by
 unfold Zax Zb2 at h
 by_cases g0 : (1 : Int) ≤ a0
 · rw [if_pos g0] at h
   by_cases g1 : a0 ≤ (64 : Int)
   · rw [if_pos g1] at h
     by_cases g2 : a1 < (1 : Int)
     · rw [if_pos g2] at h
       obtain rfl : fair_RoundsR.r0 = r := Option.some.inj h
       exact Zeh (ZbB (fu := 4000) ZfB Tryz.func4 rfl) (orc := (Zn [(0, true), (1, true), (3, true)] [] [] [] [])) (live := []) (u := vn) (bl := []) (ob := [((decide (a1 < (1 : Int))), true), ((decide (a0 ≤ (64 : Int))), true), ((decide (a0 ≥ (1 : Int))), true)]) (by kernel_rfl) (oY <| oY <| oY Zf) (Zac _ rfl) rfl (by decide) (by rfl) rr trivial
     · rw [if_neg g2] at h
       by_cases g3 : (65536 : Int) < a1
       · rw [if_pos g3] at h
         obtain rfl : fair_RoundsR.r0 = r := Option.some.inj h
         exact Zeh (ZbB (fu := 4000) ZfB Tryz.func4 rfl) (orc := (Zn [(0, true), (1, true), (3, false), (4, true)] [] [] [] [])) (live := []) (u := vn) (bl := []) (ob := [((decide (a1 > (65536 : Int))), true), ((decide (a1 < (1 : Int))), false), ((decide (a0 ≤ (64 : Int))), true), ((decide (a0 ≥ (1 : Int))), true)]) (by kernel_rfl) (oY <| oN <| oY <| oY Zf) (Zac _ rfl) rfl (by decide) (by rfl) rr trivial
       · rw [if_neg g3] at h
         by_cases g4 : (0 : Int) ≤ (IntKind.i64.wrap (a0 * a1))
         · rw [if_pos g4] at h
           by_cases g5 : (IntKind.i64.wrap (a0 * a1)) ≤ (100000 : Int)
           · rw [if_pos g5] at h
             have h : Zam (Zal a0 a1 N) N (.h1m0 (0 : Int) (List.replicate ((IntKind.i64.wrap (a0 * a1))).toNat (0 : Int)) 0 : ZM) = some r := h
             obtain ⟨w0, w1, rfl, hq⟩ := Zks (Q := fun r => ∃ (w0 : List Int) (w1 : Nat), r = .r2 w0 w1 ∧ (w1 : Int) = (IntKind.i64.wrap (a0 * a1))) (Zh6 a0 a1 N) _ _ _ h
             exact Zia a0 a1 N w0 w1 g0 g1 g2 g3 g4 g5 hq h
           · rw [if_neg g5] at h; cases h
         · rw [if_neg g4] at h; cases h
   · rw [if_neg g1] at h
     obtain rfl : fair_RoundsR.r0 = r := Option.some.inj h
     exact Zeh (ZbB (fu := 4000) ZfB Tryz.func4 rfl) (orc := (Zn [(0, true), (1, false)] [] [] [] [])) (live := []) (u := vn) (bl := []) (ob := [((decide (a0 ≤ (64 : Int))), false), ((decide (a0 ≥ (1 : Int))), true)]) (by kernel_rfl) (oN <| oY Zf) (Zac _ rfl) rfl (by decide) (by rfl) rr trivial
 · rw [if_neg g0] at h
   obtain rfl : fair_RoundsR.r0 = r := Option.some.inj h
   exact Zeh (ZbB (fu := 4000) ZfB Tryz.func4 rfl) (orc := (Zn [(0, false)] [] [] [] [])) (live := []) (u := vn) (bl := []) (ob := [((decide (a0 ≥ (1 : Int))), false)]) (by kernel_rfl) (oN Zf) (Zac _ rfl) rfl (by decide) (by rfl) rr trivial


noncomputable def Zcs (a0 a1 : Int) (n : Nat) : Zc2 := .call [] (vn) [] 0
def Zb3 (A : Array Value) (a0 a1 : Int) (n : Nat) : Prop := ZX Tryz.prog 4 A [] (vn) [] n 0

theorem Zct (A : Array Value) (a0 a1 : Int) (N : Nat) (h : Zax a0 a1 N = some (.r0)) (n : Nat) (hA : A = #[vi a0, vi a1]) (hnd : ([] : List Nat).Nodup) (hlt : ∀ k ∈ ([] : List Nat), k < n) : Zb3 A a0 a1  n :=
 ZbZ hA (LSpec.callL (show LSpec Tryz.prog 4 #[vi a0, vi a1] [] (vn) [] from Ze4 a0 a1 N _ h) [] n [] rfl hnd hlt (show 0 ≤ 0 from by decide) (show ∀ j ∈ ([] : List Nat), j < 0 from by decide) (by rfl) trivial (by rfl) trivial trivial rfl rfl rfl rfl rfl)

noncomputable def Zb4 (a0 a1 : Int) (w0 : List Int) (w1 n : Nat) : Zc2 := .call [] (vs n 0 w1 w1) [(n, some (.cells (Zc eI w0) 3))] 1
def Zbf (A : Array Value) (a0 a1 : Int) (w0 : List Int) (w1 n : Nat) : Prop := ZX Tryz.prog 4 A [] (vs n 0 w1 w1) [(n, some (.cells (Zc eI w0) 3))] n 1

theorem Zb5 (A : Array Value) (a0 a1 : Int) (w0 : List Int) (w1 N : Nat) (h : Zax a0 a1 N = some (.r2 w0 w1)) (n : Nat) (hA : A = #[vi a0, vi a1]) (hnd : ([] : List Nat).Nodup) (hlt : ∀ k ∈ ([] : List Nat), k < n) : Zbf A a0 a1 w0 w1  n :=
 ZbZ hA (LSpec.callL (show LSpec Tryz.prog 4 #[vi a0, vi a1] [] (vs 0 0 w1 w1) [some (.cells (Zc eI w0) 3)] from Ze4 a0 a1 N _ h) [] n [0] rfl hnd hlt (show 0 ≤ 1 from by decide) (show ∀ j ∈ ([0] : List Nat), j < 1 from by decide) (by rfl) trivial (by rfl) ⟨(ZbE _ _ _), trivial⟩ ⟨(by decide), trivial⟩ rfl rfl rfl rfl (Zfo (Zfp rfl (Zlr (Ze3 _ _ _))) rfl))

noncomputable def ZfV (a0 a1 : Int) : Zx → Value
 | .r0 => vn
 | .r1 w0 w1 => vs 0 0 w1 ((IntKind.i64.wrap (a0 * a1))).toNat
noncomputable def Zfr (a0 a1 : Int) : Zx → List (Option AObj)
 | .r0 => []
 | .r1 w0 w1 => [some (.cells (Zc eI w0) 3)]

def Zi4 : Zq → Nat
 | .h1m0 v2 v3 v5 => 1
 | .h2m0 v2 v3 v5 v6 => 2
noncomputable def Zjk (a0 a1 : Int) : Zq → List (Nat × Value)
 | .h1m0 v2 v3 v5 => [(0, vi a0), (1, vi a1), (5, vs 0 0 v3 ((IntKind.i64.wrap (a0 * a1))).toNat), (6, vi (v5 : Int))]
 | .h2m0 v2 v3 v5 v6 => [(0, vi a0), (1, vi a1), (5, vs 0 0 v3 ((IntKind.i64.wrap (a0 * a1))).toNat), (6, vi (v5 : Int)), (7, vi (v6 : Int))]
noncomputable def Zjl (a0 a1 : Int) : Zq → List (Option AObj)
 | .h1m0 v2 v3 v5 => [some (.cells (Zc eI v2) 3)]
 | .h2m0 v2 v3 v5 v6 => [some (.cells (Zc eI v2) 3)]

noncomputable def Za3 : Nat → Code × List ZS
 | 1 => ZaY [1, 1, 1, 0, 1, 3] (ZbC Tryz.f6) []
 | 2 => ZaY [1, 1, 1, 0, 1, 3, 7, 1, 0, 3, 1, 3] (ZbC Tryz.f6) []
 | _ => (.skip, [])
def Zfs : Nat → Bool
 | 1 => true
 | 2 => true
 | _ => true
noncomputable def ZdU (i : Nat) : List ZS := match Zfs i with | true => .rnd i :: (Za3 i).2 | false => (Za3 i).2

noncomputable def Z8 (a0 a1 : Int) (N : Nat) : Mach := ⟨Tryz.f6, [], Zq, Zx, ZC a0 a1 N, Zi4, Za3, Zfs, Zjk a0 a1, Zjl a0 a1, ZfV a0 a1, Zfr a0 a1⟩

theorem Zg5 (a0 a1 : Int) (v2 : List Int) (v3 v5 N : Nat) : (Z8 a0 a1 N).Ok Tryz.prog Zy (.h1m0 v2 v3 v5 : Zq) (ZC a0 a1 N (.h1m0 v2 v3 v5 : Zq)) := by
 show (Z8 a0 a1 N).Ok Tryz.prog Zy (.h1m0 v2 v3 v5 : Zq) (Zau a0 a1 N v2 v3 v5)
 unfold Zau
 refine Mach.ok_ite (fun g0 => ?_) (fun g0 => ?_)
 ·
  exact Mach.ok_head (bK := Za3 2) (M := Z8 a0 a1 N) (cd := 1000000) (cm := 0) (y := (.h2m0 (v2) (v3) (v5) (0) : Zq)) (fu := 4000) (orc := (Zn [(0, true)] [] [] [] [])) (live := [0]) (tv := fun _ => [some (vi a0), some (vi a1), some (vs 0 0 v3 ((IntKind.i64.wrap (a0 * a1))).toNat), some (vi (v5 : Int)), some (vq)]) (bl := [some (.cells (Zc eI v2) 3)]) (ob := [((decide ((v5 : Int) < a1)), true)]) rfl rfl (show ∀ j ∈ Zp (Za3 2).2, j ∈ Zp (ZdU 1) from by decide +kernel) (fun gv => by kernel_rfl) (oY Zf) rfl (by decide) (by rfl) (fun _ => ⟨rr, ⟨rr, ⟨rr, ⟨rr, ⟨⟨Eq.trans (show (vi ((0 : Nat) : Int) : Value) = vq from (congrArg (Value.int .i64) (by first | rfl | omega))) (by rfl), by rfl⟩, trivial⟩⟩⟩⟩⟩) ⟨(Zj (E := eI) (α := Int) _ v2 _), trivial⟩
 ·
  exact Mach.ok_fin (M := Z8 a0 a1 N) (cd := 1000000) (cm := 0) (r := (.r1 (v2) (v3) : Zx)) (fu := 4000) (orc := (Zn [(0, false)] [] [] [] [])) (live := [0]) (u := vs 0 0 v3 ((IntKind.i64.wrap (a0 * a1))).toNat) (bl := [some (.cells (Zc eI v2) 3)]) (ob := [((decide ((v5 : Int) < a1)), false)]) (fun gv => by kernel_rfl) (oN Zf) rfl (by decide) (by rfl) rr ⟨(Zj (E := eI) (α := Int) _ v2 _), trivial⟩

theorem Zg6 (a0 a1 : Int) (v2 : List Int) (v3 v5 v6 N : Nat) : (Z8 a0 a1 N).Ok Tryz.prog Zy (.h2m0 v2 v3 v5 v6 : Zq) (ZC a0 a1 N (.h2m0 v2 v3 v5 v6 : Zq)) := by
 show (Z8 a0 a1 N).Ok Tryz.prog Zy (.h2m0 v2 v3 v5 v6 : Zq) (Zav a0 a1 N v2 v3 v5 v6)
 unfold Zav
 refine Mach.ok_ite (fun g0 => ?_) (fun g0 => ?_)
 ·
  refine Mach.ok_ite (fun g1 => ?_) (fun g1 => ?_)
  ·
   refine Mach.ok_ite (fun g2 => ?_) (fun g2 => ?_)
   ·
    refine Mach.ok_ite (fun g3 => ?_) (fun g3 => ?_)
    ·
     exact Mach.ok_next (M := Z8 a0 a1 N) (cd := 1000000) (cm := 0) (y := (.h2m0 ((v2.set v3 (v6 : Int))) ((v3 + 1)) (v5) ((v6 + 1)) : Zq)) (fu := 4000) (orc := (Zn [(0, true)] [(0, (((v6 + 1) : Nat) : Int))] [] [] [(0, .api 1 [vi (v6 : Int)] (Zc eI (v2.set v3 (v6 : Int))))])) (live := [0]) (tv := fun _ => [some (vi a0), some (vi a1), some (vs 0 0 (v3 + 1) ((IntKind.i64.wrap (a0 * a1))).toNat), some (vi (v5 : Int)), some (vi (((v6 + 1) : Nat) : Int))]) (bl := [some (.cells (Zc eI (v2.set v3 (v6 : Int))) 3)]) (ob := [((IntKind.i64.wrap ((v6 : Int) + (1 : Int))) == (((v6 + 1) : Nat) : Int), true), (dP (((1 = 1 ∧ Zo (1 * 1) (List.drop 0 [vi (v6 : Int)]) = some [vi (v6 : Int)] ∧ Zi Za9 [vi (v6 : Int)] = true) ∧ Zi Za9 [vi (v6 : Int)] = true) ∧ 0 < 1 ∧ 1 ≤ 100000 ∧ v3 + 1 ≤ ((IntKind.i64.wrap (a0 * a1))).toNat ∧ (0 + v3 * 1 + ([vi (v6 : Int)] : List Value).length ≤ ((Zc eI v2) : List Value).length ∧ Zbh (Zc eI v2) (0 + v3 * 1) [vi (v6 : Int)] = (Zc eI (v2.set v3 (v6 : Int))))), true), ((decide ((v6 : Int) < a0)), true)]) rfl (show 2 ∈ Zp (ZdU 2) from by decide +kernel) (fun gv => by kernel_rfl) (Za (beq_iff_eq.2 ((wrap_i64 ltA).trans (by first | rfl | omega))) <| Za (Zh ⟨⟨⟨rfl, ⟨rfl, rfl⟩⟩, rfl⟩, by omega, by omega, by omega, (Zbx (E := eI) (L := v2) (i := v3) (q := 0) (l := [vi (v6 : Int)]) (v6 : Int) (by omega) (show 0 + v3 * 1 = v3 * 1 + 0 from by omega) (show 0 + 1 ≤ 1 from by decide) rfl)⟩) <| oY Zf) rfl (by decide) (by rfl) (fun _ => ⟨rr, ⟨rr, ⟨rr, ⟨rr, ⟨rr, trivial⟩⟩⟩⟩⟩) ⟨(Zj (E := eI) (α := Int) _ (v2.set v3 (v6 : Int)) _), trivial⟩
    ·
     exact Mach.ok_none
   ·
    exact Mach.ok_none
  ·
   exact Mach.ok_none
 ·
  refine Mach.ok_ite (fun g1 => ?_) (fun g1 => ?_)
  ·
   exact Mach.ok_next (M := Z8 a0 a1 N) (cd := 1000000) (cm := 0) (y := (.h1m0 (v2) (v3) ((v5 + 1)) : Zq)) (fu := 4000) (orc := (Zn [(0, false)] [(0, (((v5 + 1) : Nat) : Int))] [] [] [])) (live := [0]) (tv := fun _ => [some (vi a0), some (vi a1), some (vs 0 0 v3 ((IntKind.i64.wrap (a0 * a1))).toNat), some (vi (((v5 + 1) : Nat) : Int))]) (bl := [some (.cells (Zc eI v2) 3)]) (ob := [((IntKind.i64.wrap ((v5 : Int) + (1 : Int))) == (((v5 + 1) : Nat) : Int), true), ((decide ((v6 : Int) < a0)), false)]) rfl (show 1 ∈ Zp (ZdU 2) from by decide +kernel) (fun gv => by kernel_rfl) (Za (beq_iff_eq.2 ((wrap_i64 ltA).trans (by first | rfl | omega))) <| oN Zf) rfl (by decide) (by rfl) (fun _ => ⟨rr, ⟨rr, ⟨rr, ⟨rr, trivial⟩⟩⟩⟩) ⟨(Zj (E := eI) (α := Int) _ v2 _), trivial⟩
  ·
   exact Mach.ok_none

theorem Zib (a0 a1 : Int) (N : Nat) : (Z8 a0 a1 N).Enter Tryz.prog Zy #[vi a0, vi a1] (ZaQ a0 a1 N) := by
 unfold ZaQ
 refine Mach.en_ite (fun g0 => ?_) (fun g0 => ?_)
 ·
  exact Mach.en_fin (M := Z8 a0 a1 N) (cd := 1000000) (cm := 0) (r := (.r0 : Zx)) (fu := 4000) (orc := (Zn [(0, true)] [] [] [] [])) (live := []) (u := vn) (bl := []) (ob := [((decide (a0 < (1 : Int))), true)]) (by kernel_rfl) (oY Zf) rfl (by decide) (by rfl) rr trivial
 ·
  refine Mach.en_ite (fun g1 => ?_) (fun g1 => ?_)
  ·
   exact Mach.en_fin (M := Z8 a0 a1 N) (cd := 1000000) (cm := 0) (r := (.r0 : Zx)) (fu := 4000) (orc := (Zn [(0, false), (1, true)] [] [] [] [])) (live := []) (u := vn) (bl := []) (ob := [((decide (a0 > (64 : Int))), true), ((decide (a0 < (1 : Int))), false)]) (by kernel_rfl) (oY <| oN Zf) rfl (by decide) (by rfl) rr trivial
  ·
   refine Mach.en_ite (fun g2 => ?_) (fun g2 => ?_)
   ·
    exact Mach.en_fin (M := Z8 a0 a1 N) (cd := 1000000) (cm := 0) (r := (.r0 : Zx)) (fu := 4000) (orc := (Zn [(0, false), (1, false), (2, true)] [] [] [] [])) (live := []) (u := vn) (bl := []) (ob := [((decide (a1 < (1 : Int))), true), ((decide (a0 > (64 : Int))), false), ((decide (a0 < (1 : Int))), false)]) (by kernel_rfl) (oY <| oN <| oN Zf) rfl (by decide) (by rfl) rr trivial
   ·
    refine Mach.en_ite (fun g3 => ?_) (fun g3 => ?_)
    ·
     exact Mach.en_fin (M := Z8 a0 a1 N) (cd := 1000000) (cm := 0) (r := (.r0 : Zx)) (fu := 4000) (orc := (Zn [(0, false), (1, false), (2, false), (3, true)] [] [] [] [])) (live := []) (u := vn) (bl := []) (ob := [((decide (a1 > (65536 : Int))), true), ((decide (a1 < (1 : Int))), false), ((decide (a0 > (64 : Int))), false), ((decide (a0 < (1 : Int))), false)]) (by kernel_rfl) (oY <| oN <| oN <| oN Zf) rfl (by decide) (by rfl) rr trivial
    ·
     refine Mach.en_ite (fun g4 => ?_) (fun g4 => ?_)
     ·
      refine Mach.en_ite (fun g5 => ?_) (fun g5 => ?_)
      ·
       exact Mach.en_head (bK := Za3 1) (M := Z8 a0 a1 N) (cd := 1000000) (cm := 0) (y := (.h1m0 ((List.replicate ((IntKind.i64.wrap (a0 * a1))).toNat (0 : Int))) (0) (0) : Zq)) (fu := 4000) (orc := (Zn [(0, false), (1, false), (2, false), (3, false)] [] [] [] [(0, .mk 0 ((IntKind.i64.wrap (a0 * a1))).toNat (Zc eI (List.replicate ((IntKind.i64.wrap (a0 * a1))).toNat (0 : Int))))])) (live := [0]) (tv := [some (vi a0), some (vi a1), some (vs 0 0 0 ((IntKind.i64.wrap (a0 * a1))).toNat), some (vq)]) (bl := [some (.cells (Zc eI (List.replicate ((IntKind.i64.wrap (a0 * a1))).toNat (0 : Int))) 3)]) (ob := [(dP (0 ≤ ((IntKind.i64.wrap (a0 * a1))).toNat ∧ ((IntKind.i64.wrap (a0 * a1))).toNat ≤ 100000 ∧ Ev.rep [vq] (((IntKind.i64.wrap (a0 * a1))).toNat * 1) = (Zc eI (List.replicate ((IntKind.i64.wrap (a0 * a1))).toNat (0 : Int)))), true), ((IntKind.i64.wrap (a0 * a1)) == Int.ofNat ((IntKind.i64.wrap (a0 * a1))).toNat, true), ((0 : Int) == Int.ofNat 0, true), ((decide (a1 > (65536 : Int))), false), ((decide (a1 < (1 : Int))), false), ((decide (a0 > (64 : Int))), false), ((decide (a0 < (1 : Int))), false)]) rfl rfl (show Zp (Za3 1).2 = [] from rfl) (by kernel_rfl) (Za (Zh ⟨by omega, by omega, Zkn (E := eI) (0 : Int) ((IntKind.i64.wrap (a0 * a1))).toNat (by decide) rfl rfl⟩) <| oI <| oI <| oN <| oN <| oN <| oN Zf) rfl (by decide) (by rfl) ⟨rr, ⟨rr, ⟨rr, ⟨⟨Eq.trans (show (vi ((0 : Nat) : Int) : Value) = vq from (congrArg (Value.int .i64) (by first | rfl | omega))) (by rfl), by rfl⟩, trivial⟩⟩⟩⟩ ⟨(Zj (E := eI) (α := Int) _ (List.replicate ((IntKind.i64.wrap (a0 * a1))).toNat (0 : Int)) _), trivial⟩
      ·
       exact Mach.en_none
     ·
      exact Mach.en_none

theorem ZdW (a0 a1 : Int) (N : Nat) (r : Zx) (h : Zan a0 a1 N = some r) : LSpec Tryz.prog 6 #[vi a0, vi a1] [] (ZfV a0 a1 r) (Zfr a0 a1 r) :=
 Mach.spec Zds (Z8 a0 a1 N) Tryz.func6 (by kernel_rfl) (by kernel_rfl) (fun x => by cases x <;> exact Zac _ rfl) (fun r => by cases r <;> exact Zac _ rfl) (fun x => by
  cases x with
  | h1m0 _ _ _ => exact fun _ => (show ¬ (1 ∈ Zp (Za3 1).2) from by decide +kernel)
  | h2m0 _ _ _ _ => exact fun _ => (show ¬ (2 ∈ Zp (Za3 2).2) from by decide +kernel)
  ) (fun x => (show (Z8 a0 a1 N).Ok Tryz.prog Zy x (ZC a0 a1 N x) from by
  cases x with
  | h1m0 v2 v3 v5 => exact Zg5 a0 a1 v2 v3 v5 N
  | h2m0 v2 v3 v5 v6 => exact Zg6 a0 a1 v2 v3 v5 v6 N
  )) (Zib a0 a1 N) (n := N) h

noncomputable def Zcd (a0 a1 : Int) (n : Nat) : Zc2 := .call [] (vn) [] 0
def Zbr (A : Array Value) (a0 a1 : Int) (n : Nat) : Prop := ZX Tryz.prog 6 A [] (vn) [] n 0

theorem Zce (A : Array Value) (a0 a1 : Int) (N : Nat) (h : Zan a0 a1 N = some (.r0)) (n : Nat) (hA : A = #[vi a0, vi a1]) (hnd : ([] : List Nat).Nodup) (hlt : ∀ k ∈ ([] : List Nat), k < n) : Zbr A a0 a1  n :=
 ZbZ hA (LSpec.callL (show LSpec Tryz.prog 6 #[vi a0, vi a1] [] (vn) [] from ZdW a0 a1 N _ h) [] n [] rfl hnd hlt (show 0 ≤ 0 from by decide) (show ∀ j ∈ ([] : List Nat), j < 0 from by decide) (by rfl) trivial (by rfl) trivial trivial rfl rfl rfl rfl rfl)

noncomputable def Zbs (a0 a1 : Int) (w0 : List Int) (w1 n : Nat) : Zc2 := .call [] (vs n 0 w1 ((IntKind.i64.wrap (a0 * a1))).toNat) [(n, some (.cells (Zc eI w0) 3))] 1
def ZaR (A : Array Value) (a0 a1 : Int) (w0 : List Int) (w1 n : Nat) : Prop := ZX Tryz.prog 6 A [] (vs n 0 w1 ((IntKind.i64.wrap (a0 * a1))).toNat) [(n, some (.cells (Zc eI w0) 3))] n 1

theorem Zbt (A : Array Value) (a0 a1 : Int) (w0 : List Int) (w1 N : Nat) (h : Zan a0 a1 N = some (.r1 w0 w1)) (n : Nat) (hA : A = #[vi a0, vi a1]) (hnd : ([] : List Nat).Nodup) (hlt : ∀ k ∈ ([] : List Nat), k < n) : ZaR A a0 a1 w0 w1  n :=
 ZbZ hA (LSpec.callL (show LSpec Tryz.prog 6 #[vi a0, vi a1] [] (vs 0 0 w1 ((IntKind.i64.wrap (a0 * a1))).toNat) [some (.cells (Zc eI w0) 3)] from ZdW a0 a1 N _ h) [] n [0] rfl hnd hlt (show 0 ≤ 1 from by decide) (show ∀ j ∈ ([0] : List Nat), j < 1 from by decide) (by rfl) trivial (by rfl) ⟨(ZbE _ _ _), trivial⟩ ⟨(by decide), trivial⟩ rfl rfl rfl rfl (Zfo (Zfp rfl (Zlr (Ze3 _ _ _))) rfl))

noncomputable def ZeJ  : ZV → Value
 | .r0 => vT
noncomputable def Ze5  : ZV → List (Option AObj)
 | .r0 => []

def Zh7 : ZB → Nat
 | .h1m0 => 1
noncomputable def Zic  : ZB → List (Nat × Value)
 | .h1m0 => [(0, vn), (1, vn), (5, vq)]
noncomputable def Zid  : ZB → List (Option AObj)
 | .h1m0 => []

noncomputable def Zc1 : Nat → Code × List ZS
 | 1 => ZaY [1, 1, 0, 1, 3] (ZbC Tryz.f5) []
 | _ => (.skip, [])
def Zh8 : Nat → Bool
 | 1 => true
 | _ => true
noncomputable def ZaE  (N : Nat) : Mach := ⟨Tryz.f5, [], ZB, ZV, ZaZ  N, Zh7, Zc1, Zh8, Zic , Zid , ZeJ , Ze5 ⟩

theorem ZfK  (N : Nat) : (ZaE  N).Ok Tryz.prog Zy (.h1m0 : ZB) (ZaZ  N (.h1m0 : ZB)) := by
 show (ZaE  N).Ok Tryz.prog Zy (.h1m0 : ZB) (Zcy  N)
 unfold Zcy
 exact Mach.ok_fin (M := ZaE  N) (cd := 1000000) (cm := 0) (r := (.r0 : ZV)) (fu := 4000) (orc := (Zn [] [] [] [] [])) (live := []) (u := vT) (bl := []) (ob := []) (fun gv => by kernel_rfl) Zf rfl (by decide) (by rfl) rr trivial

theorem ZgP  (N : Nat) : (ZaE  N).Enter Tryz.prog Zy #[vn, vn] (Zda  N) := by
 unfold Zda
 exact Mach.en_head (bK := Zc1 1) (M := ZaE  N) (cd := 1000000) (cm := 0) (y := (.h1m0 : ZB)) (fu := 4000) (orc := (Zn [] [] [] [] [])) (live := []) (tv := [some (vn), some (vn), some (vq)]) (bl := []) (ob := []) rfl rfl (show Zp (Zc1 1).2 = [] from rfl) (by kernel_rfl) Zf rfl (by decide) (by rfl) ⟨rr, ⟨rr, ⟨rr, trivial⟩⟩⟩ trivial

theorem ZfW  (N : Nat) (r : ZV) (h : ZcO  N = some r) : LSpec Tryz.prog 5 #[vn, vn] [] (ZeJ  r) (Ze5  r) :=
 Mach.spec Zds (ZaE  N) Tryz.func5 (by kernel_rfl) (by kernel_rfl) (fun x => by cases x <;> exact Zac _ rfl) (fun r => by cases r <;> exact Zac _ rfl) (fun x => by
  cases x with
  | h1m0 => exact fun _ => (show ¬ (1 ∈ Zp (Zc1 1).2) from by decide +kernel)
  ) (fun x => (show (ZaE  N).Ok Tryz.prog Zy x (ZaZ  N x) from by
  cases x with
  | h1m0 => exact ZfK  N
  )) (ZgP  N) (n := N) h

noncomputable def Zbz  (n : Nat) : Zc2 := .call [] (vT) [] 0
def ZaS (A : Array Value)  (n : Nat) : Prop := ZX Tryz.prog 5 A [] (vT) [] n 0

theorem Zb0 (A : Array Value)  (N : Nat) (h : ZcO  N = some (.r0)) (n : Nat) (hA : A = #[vn, vn]) (hnd : ([] : List Nat).Nodup) (hlt : ∀ k ∈ ([] : List Nat), k < n) : ZaS A   n :=
 ZbZ hA (LSpec.callL (show LSpec Tryz.prog 5 #[vn, vn] [] (vT) [] from ZfW  N _ h) [] n [] rfl hnd hlt (show 0 ≤ 0 from by decide) (show ∀ j ∈ ([] : List Nat), j < 0 from by decide) (by rfl) trivial (by rfl) trivial trivial rfl rfl rfl rfl rfl)

noncomputable def Zkt (L0 : List Int) (a1 a2 : Int) : ZZ → Value
 | .r0 w0 => Value.bool w0
noncomputable def ZiX (L0 : List Int) (a1 a2 : Int) : ZZ → List (Option AObj)
 | .r0 w0 => []

def ZmR : Zs → Nat
 | .h1m0 v3 v4 v7 => 1
 | .h2m0 v3 v4 v5 v8 => 2
noncomputable def ZnC (L0 : List Int) (a1 a2 : Int) : Zs → List (Nat × Value)
 | .h1m0 v3 v4 v7 => [(0, ms eI L0), (1, vi a1), (2, vi a2), (7, vp 0 0), (8, vi (v4 : Int)), (19, ms eI L0), (20, vi (L0.length : Int)), (21, vi (v7 : Int))]
 | .h2m0 v3 v4 v5 v8 => [(0, ms eI L0), (1, vi a1), (2, vi a2), (7, vp 0 0), (8, vi (v4 : Int)), (9, vi (v5 : Int)), (19, ms eI L0), (20, vi (L0.length : Int)), (21, vi (v8 : Int))]
noncomputable def ZnD (L0 : List Int) (a1 a2 : Int) : Zs → List (Option AObj)
 | .h1m0 v3 v4 v7 => [some (.cells (Zc eI v3) 31)]
 | .h2m0 v3 v4 v5 v8 => [some (.cells (Zc eI v3) 31)]

noncomputable def Za4 : Nat → Code × List ZS
 | 1 => ZaY [1, 2, 1, 1, 1, 1, 0, 1, 3] (ZbC Tryz.f7) []
 | 2 => ZfG [1, 2, 1, 1, 1, 1, 0, 1, 3, 7, 1, 1, 0, 3, 1, 1] (ZbC Tryz.f7) []
 | _ => (.skip, [])
def ZiY : Nat → Bool
 | 1 => true
 | 2 => false
 | _ => true
noncomputable def Zcp (i : Nat) : List ZS := match ZiY i with | true => .rnd i :: (Za4 i).2 | false => (Za4 i).2

noncomputable def ZJ (L0 : List Int) (a1 a2 : Int) (N : Nat) : Mach := ⟨Tryz.f7, [], Zs, ZZ, Zaq L0 a1 a2 N, ZmR, Za4, ZiY, ZnC L0 a1 a2, ZnD L0 a1 a2, Zkt L0 a1 a2, ZiX L0 a1 a2⟩

theorem Zjm (L0 : List Int) (a1 a2 : Int) (v3 : List Int) (v4 v7 N : Nat) : (ZJ L0 a1 a2 N).Ok Tryz.prog Zy (.h1m0 v3 v4 v7 : Zs) (Zaq L0 a1 a2 N (.h1m0 v3 v4 v7 : Zs)) := by
 show (ZJ L0 a1 a2 N).Ok Tryz.prog Zy (.h1m0 v3 v4 v7 : Zs) (Zay L0 a1 a2 N v3 v4 v7)
 unfold Zay
 refine Mach.ok_ite (fun g0 => ?_) (fun g0 => ?_)
 ·
  refine Mach.ok_ite (fun g1 => ?_) (fun g1 => ?_)
  ·
   refine Mach.ok_ite (fun g2 => ?_) (fun g2 => ?_)
   ·
    refine Mach.ok_ite (fun g3 => ?_) (fun g3 => ?_)
    ·
     refine Mach.ok_ite (fun g4 => ?_) (fun g4 => ?_)
     ·
      refine Mach.ok_ite (fun g5 => ?_) (fun g5 => ?_)
      ·
       refine Mach.ok_ite (fun g6 => ?_) (fun g6 => ?_)
       ·
        refine Mach.ok_ite (fun g7 => ?_) (fun g7 => ?_)
        ·
         refine Mach.ok_ite (fun g8 => ?_) (fun g8 => ?_)
         ·
          exact Mach.ok_cut (bK := Za4 2) (M := ZJ L0 a1 a2 N) (cd := 6) (cm := 1) (y := (.h2m0 ((v3.set ((L0.getD v7 0)).toNat (IntKind.i64.wrap ((v3.getD ((L0.getD v7 0)).toNat 0) + (1 : Int))))) ((v4 + 1)) (v7) (v7) : Zs)) (fu := 4000) (orc := (Zn [(0, true), (1, true), (2, true), (3, true)] [(1, (((v4 + 1) : Nat) : Int))] [(0, v7), (1, ((L0.getD v7 0)).toNat), (2, ((L0.getD v7 0)).toNat), (3, ((L0.getD v7 0)).toNat)] [(0, [.i (L0.getD v7 0)]), (1, [.i (v3.getD ((L0.getD v7 0)).toNat 0)]), (2, [.i (IntKind.i64.wrap ((v3.getD ((L0.getD v7 0)).toNat 0) + (1 : Int)))])] [(0, .st (Zc eI (v3.set ((L0.getD v7 0)).toNat (IntKind.i64.wrap ((v3.getD ((L0.getD v7 0)).toNat 0) + (1 : Int))))))])) (live := [0]) (tv := fun _ => [some (ms eI L0), some (vi a1), some (vi a2), some (vp 0 0), some (vi (((v4 + 1) : Nat) : Int)), some (vi (v7 : Int)), some (ms eI L0), some (vi (L0.length : Int)), some (vi (v7 : Int))]) (bl := [some (.cells (Zc eI (v3.set ((L0.getD v7 0)).toNat (IntKind.i64.wrap ((v3.getD ((L0.getD v7 0)).toNat 0) + (1 : Int))))) 31)]) (ob := [((IntKind.i64.wrap ((v4 : Int) + (1 : Int))) == (((v4 + 1) : Nat) : Int), true), (((IntKind.i64.wrap ((v3.getD ((L0.getD v7 0)).toNat 0) + (1 : Int))) == (1 : Int)), true), (ZL (Zo 1 (List.drop (0 + (((L0.getD v7 0)).toNat * 1)) (Zc eI (v3.set ((L0.getD v7 0)).toNat (IntKind.i64.wrap ((v3.getD ((L0.getD v7 0)).toNat 0) + (1 : Int))))))) [.i (IntKind.i64.wrap ((v3.getD ((L0.getD v7 0)).toNat 0) + (1 : Int)))], true), (Nat.blt ((L0.getD v7 0)).toNat 64, true), ((L0.getD v7 0) == Int.ofNat ((L0.getD v7 0)).toNat, true), (dP ((0 + (((L0.getD v7 0)).toNat * 1)) + ([vi (IntKind.i64.wrap ((v3.getD ((L0.getD v7 0)).toNat 0) + (1 : Int)))] : List Value).length ≤ ((Zc eI v3) : List Value).length ∧ Zbh (Zc eI v3) (0 + (((L0.getD v7 0)).toNat * 1)) [vi (IntKind.i64.wrap ((v3.getD ((L0.getD v7 0)).toNat 0) + (1 : Int)))] = (Zc eI (v3.set ((L0.getD v7 0)).toNat (IntKind.i64.wrap ((v3.getD ((L0.getD v7 0)).toNat 0) + (1 : Int)))))), true), (Nat.blt ((L0.getD v7 0)).toNat 64, true), ((L0.getD v7 0) == Int.ofNat ((L0.getD v7 0)).toNat, true), (ZL (Zo 1 (List.drop (0 + (((L0.getD v7 0)).toNat * 1)) (Zc eI v3))) [.i (v3.getD ((L0.getD v7 0)).toNat 0)], true), (Nat.blt ((L0.getD v7 0)).toNat 64, true), ((L0.getD v7 0) == Int.ofNat ((L0.getD v7 0)).toNat, true), ((decide ((L0.getD v7 0) < a1)), true), ((decide ((L0.getD v7 0) ≥ (0 : Int))), true), (dP (ZK (code (Zl eI L0)) (0 + (v7 * 1)) 1 = some [.i (L0.getD v7 0)]), true), (Nat.blt v7 L0.length, true), ((v7 : Int) == Int.ofNat v7, true), ((decide ((v7 : Int) < (L0.length : Int))), true)]) rfl rfl (show ∀ j ∈ Zp (Za4 2).2, j ∈ Zp (Zcp 1) from by decide +kernel) (fun gv => by kernel_rfl) (Za (beq_iff_eq.2 ((wrap_i64 ltA).trans (by first | rfl | omega))) <| oT <| Za (Zw (E := eI) (L := (v3.set ((L0.getD v7 0)).toNat (IntKind.i64.wrap ((v3.getD ((L0.getD v7 0)).toNat 0) + (1 : Int))))) (i := ((L0.getD v7 0)).toNat) (q := 0) ltA (show (0 + (((L0.getD v7 0)).toNat * 1)) = ((L0.getD v7 0)).toNat * 1 + 0 from by omega) (show 0 + 1 ≤ 1 from by decide) rfl (by rw [Zch ltA]; first | done | rfl)) <| oB <| oI <| Za (Zh (Zbx (E := eI) (L := v3) (i := ((L0.getD v7 0)).toNat) (q := 0) (l := [vi (IntKind.i64.wrap ((v3.getD ((L0.getD v7 0)).toNat 0) + (1 : Int)))]) (IntKind.i64.wrap ((v3.getD ((L0.getD v7 0)).toNat 0) + (1 : Int))) (by omega) (show (0 + (((L0.getD v7 0)).toNat * 1)) = ((L0.getD v7 0)).toNat * 1 + 0 from by omega) (show 0 + 1 ≤ 1 from by decide) rfl)) <| oB <| oI <| Za (Zw (E := eI) (L := v3) (i := ((L0.getD v7 0)).toNat) (q := 0) (by omega) (show (0 + (((L0.getD v7 0)).toNat * 1)) = ((L0.getD v7 0)).toNat * 1 + 0 from by omega) (show 0 + 1 ≤ 1 from by decide) rfl rfl) <| oB <| oI <| oY <| oY <| Za (Zh (ZbL (E := eI) (L := L0) (i := v7) (q := 0) (by omega) (show (0 + (v7 * 1)) = v7 * 1 + 0 from by omega) (show 0 + 1 ≤ 1 from by decide) rfl)) <| oB <| oI <| oY Zf) rfl (by decide) (by rfl) (fun _ => ⟨rr, ⟨rr, ⟨rr, ⟨rr, ⟨rr, ⟨rr, ⟨rr, ⟨rr, ⟨rr, trivial⟩⟩⟩⟩⟩⟩⟩⟩⟩) ⟨(Zj (E := eI) (α := Int) _ (v3.set ((L0.getD v7 0)).toNat (IntKind.i64.wrap ((v3.getD ((L0.getD v7 0)).toNat 0) + (1 : Int)))) _), trivial⟩
         ·
          exact Mach.ok_none
        ·
         exact Mach.ok_cut (bK := Za4 2) (M := ZJ L0 a1 a2 N) (cd := 6) (cm := 1) (y := (.h2m0 ((v3.set ((L0.getD v7 0)).toNat (IntKind.i64.wrap ((v3.getD ((L0.getD v7 0)).toNat 0) + (1 : Int))))) (v4) (v7) (v7) : Zs)) (fu := 4000) (orc := (Zn [(0, true), (1, true), (2, true), (3, false)] [] [(0, v7), (1, ((L0.getD v7 0)).toNat), (2, ((L0.getD v7 0)).toNat), (3, ((L0.getD v7 0)).toNat)] [(0, [.i (L0.getD v7 0)]), (1, [.i (v3.getD ((L0.getD v7 0)).toNat 0)]), (2, [.i (IntKind.i64.wrap ((v3.getD ((L0.getD v7 0)).toNat 0) + (1 : Int)))])] [(0, .st (Zc eI (v3.set ((L0.getD v7 0)).toNat (IntKind.i64.wrap ((v3.getD ((L0.getD v7 0)).toNat 0) + (1 : Int))))))])) (live := [0]) (tv := fun _ => [some (ms eI L0), some (vi a1), some (vi a2), some (vp 0 0), some (vi (v4 : Int)), some (vi (v7 : Int)), some (ms eI L0), some (vi (L0.length : Int)), some (vi (v7 : Int))]) (bl := [some (.cells (Zc eI (v3.set ((L0.getD v7 0)).toNat (IntKind.i64.wrap ((v3.getD ((L0.getD v7 0)).toNat 0) + (1 : Int))))) 31)]) (ob := [(((IntKind.i64.wrap ((v3.getD ((L0.getD v7 0)).toNat 0) + (1 : Int))) == (1 : Int)), false), (ZL (Zo 1 (List.drop (0 + (((L0.getD v7 0)).toNat * 1)) (Zc eI (v3.set ((L0.getD v7 0)).toNat (IntKind.i64.wrap ((v3.getD ((L0.getD v7 0)).toNat 0) + (1 : Int))))))) [.i (IntKind.i64.wrap ((v3.getD ((L0.getD v7 0)).toNat 0) + (1 : Int)))], true), (Nat.blt ((L0.getD v7 0)).toNat 64, true), ((L0.getD v7 0) == Int.ofNat ((L0.getD v7 0)).toNat, true), (dP ((0 + (((L0.getD v7 0)).toNat * 1)) + ([vi (IntKind.i64.wrap ((v3.getD ((L0.getD v7 0)).toNat 0) + (1 : Int)))] : List Value).length ≤ ((Zc eI v3) : List Value).length ∧ Zbh (Zc eI v3) (0 + (((L0.getD v7 0)).toNat * 1)) [vi (IntKind.i64.wrap ((v3.getD ((L0.getD v7 0)).toNat 0) + (1 : Int)))] = (Zc eI (v3.set ((L0.getD v7 0)).toNat (IntKind.i64.wrap ((v3.getD ((L0.getD v7 0)).toNat 0) + (1 : Int)))))), true), (Nat.blt ((L0.getD v7 0)).toNat 64, true), ((L0.getD v7 0) == Int.ofNat ((L0.getD v7 0)).toNat, true), (ZL (Zo 1 (List.drop (0 + (((L0.getD v7 0)).toNat * 1)) (Zc eI v3))) [.i (v3.getD ((L0.getD v7 0)).toNat 0)], true), (Nat.blt ((L0.getD v7 0)).toNat 64, true), ((L0.getD v7 0) == Int.ofNat ((L0.getD v7 0)).toNat, true), ((decide ((L0.getD v7 0) < a1)), true), ((decide ((L0.getD v7 0) ≥ (0 : Int))), true), (dP (ZK (code (Zl eI L0)) (0 + (v7 * 1)) 1 = some [.i (L0.getD v7 0)]), true), (Nat.blt v7 L0.length, true), ((v7 : Int) == Int.ofNat v7, true), ((decide ((v7 : Int) < (L0.length : Int))), true)]) rfl rfl (show ∀ j ∈ Zp (Za4 2).2, j ∈ Zp (Zcp 1) from by decide +kernel) (fun gv => by kernel_rfl) (oF <| Za (Zw (E := eI) (L := (v3.set ((L0.getD v7 0)).toNat (IntKind.i64.wrap ((v3.getD ((L0.getD v7 0)).toNat 0) + (1 : Int))))) (i := ((L0.getD v7 0)).toNat) (q := 0) ltA (show (0 + (((L0.getD v7 0)).toNat * 1)) = ((L0.getD v7 0)).toNat * 1 + 0 from by omega) (show 0 + 1 ≤ 1 from by decide) rfl (by rw [Zch ltA]; first | done | rfl)) <| oB <| oI <| Za (Zh (Zbx (E := eI) (L := v3) (i := ((L0.getD v7 0)).toNat) (q := 0) (l := [vi (IntKind.i64.wrap ((v3.getD ((L0.getD v7 0)).toNat 0) + (1 : Int)))]) (IntKind.i64.wrap ((v3.getD ((L0.getD v7 0)).toNat 0) + (1 : Int))) (by omega) (show (0 + (((L0.getD v7 0)).toNat * 1)) = ((L0.getD v7 0)).toNat * 1 + 0 from by omega) (show 0 + 1 ≤ 1 from by decide) rfl)) <| oB <| oI <| Za (Zw (E := eI) (L := v3) (i := ((L0.getD v7 0)).toNat) (q := 0) (by omega) (show (0 + (((L0.getD v7 0)).toNat * 1)) = ((L0.getD v7 0)).toNat * 1 + 0 from by omega) (show 0 + 1 ≤ 1 from by decide) rfl rfl) <| oB <| oI <| oY <| oY <| Za (Zh (ZbL (E := eI) (L := L0) (i := v7) (q := 0) (by omega) (show (0 + (v7 * 1)) = v7 * 1 + 0 from by omega) (show 0 + 1 ≤ 1 from by decide) rfl)) <| oB <| oI <| oY Zf) rfl (by decide) (by rfl) (fun _ => ⟨rr, ⟨rr, ⟨rr, ⟨rr, ⟨rr, ⟨rr, ⟨rr, ⟨rr, ⟨rr, trivial⟩⟩⟩⟩⟩⟩⟩⟩⟩) ⟨(Zj (E := eI) (α := Int) _ (v3.set ((L0.getD v7 0)).toNat (IntKind.i64.wrap ((v3.getD ((L0.getD v7 0)).toNat 0) + (1 : Int)))) _), trivial⟩
       ·
        exact Mach.ok_none
      ·
       exact Mach.ok_cut (bK := Za4 2) (M := ZJ L0 a1 a2 N) (cd := 6) (cm := 1) (y := (.h2m0 (v3) (v4) (v7) (v7) : Zs)) (fu := 4000) (orc := (Zn [(0, true), (1, true), (2, false)] [] [(0, v7)] [(0, [.i (L0.getD v7 0)])] [])) (live := [0]) (tv := fun _ => [some (ms eI L0), some (vi a1), some (vi a2), some (vp 0 0), some (vi (v4 : Int)), some (vi (v7 : Int)), some (ms eI L0), some (vi (L0.length : Int)), some (vi (v7 : Int))]) (bl := [some (.cells (Zc eI v3) 31)]) (ob := [((decide ((L0.getD v7 0) < a1)), false), ((decide ((L0.getD v7 0) ≥ (0 : Int))), true), (dP (ZK (code (Zl eI L0)) (0 + (v7 * 1)) 1 = some [.i (L0.getD v7 0)]), true), (Nat.blt v7 L0.length, true), ((v7 : Int) == Int.ofNat v7, true), ((decide ((v7 : Int) < (L0.length : Int))), true)]) rfl rfl (show ∀ j ∈ Zp (Za4 2).2, j ∈ Zp (Zcp 1) from by decide +kernel) (fun gv => by kernel_rfl) (oN <| oY <| Za (Zh (ZbL (E := eI) (L := L0) (i := v7) (q := 0) (by omega) (show (0 + (v7 * 1)) = v7 * 1 + 0 from by omega) (show 0 + 1 ≤ 1 from by decide) rfl)) <| oB <| oI <| oY Zf) rfl (by decide) (by rfl) (fun _ => ⟨rr, ⟨rr, ⟨rr, ⟨rr, ⟨rr, ⟨rr, ⟨rr, ⟨rr, ⟨rr, trivial⟩⟩⟩⟩⟩⟩⟩⟩⟩) ⟨(Zj (E := eI) (α := Int) _ v3 _), trivial⟩
     ·
      exact Mach.ok_cut (bK := Za4 2) (M := ZJ L0 a1 a2 N) (cd := 6) (cm := 1) (y := (.h2m0 (v3) (v4) (v7) (v7) : Zs)) (fu := 4000) (orc := (Zn [(0, true), (1, false)] [] [(0, v7)] [(0, [.i (L0.getD v7 0)])] [])) (live := [0]) (tv := fun _ => [some (ms eI L0), some (vi a1), some (vi a2), some (vp 0 0), some (vi (v4 : Int)), some (vi (v7 : Int)), some (ms eI L0), some (vi (L0.length : Int)), some (vi (v7 : Int))]) (bl := [some (.cells (Zc eI v3) 31)]) (ob := [((decide ((L0.getD v7 0) ≥ (0 : Int))), false), (dP (ZK (code (Zl eI L0)) (0 + (v7 * 1)) 1 = some [.i (L0.getD v7 0)]), true), (Nat.blt v7 L0.length, true), ((v7 : Int) == Int.ofNat v7, true), ((decide ((v7 : Int) < (L0.length : Int))), true)]) rfl rfl (show ∀ j ∈ Zp (Za4 2).2, j ∈ Zp (Zcp 1) from by decide +kernel) (fun gv => by kernel_rfl) (oN <| Za (Zh (ZbL (E := eI) (L := L0) (i := v7) (q := 0) (by omega) (show (0 + (v7 * 1)) = v7 * 1 + 0 from by omega) (show 0 + 1 ≤ 1 from by decide) rfl)) <| oB <| oI <| oY Zf) rfl (by decide) (by rfl) (fun _ => ⟨rr, ⟨rr, ⟨rr, ⟨rr, ⟨rr, ⟨rr, ⟨rr, ⟨rr, ⟨rr, trivial⟩⟩⟩⟩⟩⟩⟩⟩⟩) ⟨(Zj (E := eI) (α := Int) _ v3 _), trivial⟩
    ·
     exact Mach.ok_fin (M := ZJ L0 a1 a2 N) (cd := 1000000) (cm := 0) (r := (.r0 (true) : ZZ)) (fu := 4000) (orc := (Zn [(0, false)] [] [] [] [])) (live := []) (u := vT) (bl := []) (ob := [((decide ((v7 : Int) < (L0.length : Int))), false)]) (fun gv => by kernel_rfl) (oN Zf) rfl (by decide) (by rfl) rr trivial
   ·
    exact Mach.ok_none
  ·
   exact Mach.ok_none
 ·
  exact Mach.ok_none

theorem Zjn (L0 : List Int) (a1 a2 : Int) (v3 : List Int) (v4 v5 v8 N : Nat) : (ZJ L0 a1 a2 N).Ok Tryz.prog Zy (.h2m0 v3 v4 v5 v8 : Zs) (Zaq L0 a1 a2 N (.h2m0 v3 v4 v5 v8 : Zs)) := by
 show (ZJ L0 a1 a2 N).Ok Tryz.prog Zy (.h2m0 v3 v4 v5 v8 : Zs) (Zaz L0 a1 a2 N v3 v4 v5 v8)
 unfold Zaz
 refine Mach.ok_ite (fun g0 => ?_) (fun g0 => ?_)
 ·
  refine Mach.ok_ite (fun g1 => ?_) (fun g1 => ?_)
  ·
   refine Mach.ok_ite (fun g2 => ?_) (fun g2 => ?_)
   ·
    refine Mach.ok_ite (fun g3 => ?_) (fun g3 => ?_)
    ·
     refine Mach.ok_ite (fun g4 => ?_) (fun g4 => ?_)
     ·
      refine Mach.ok_ite (fun g5 => ?_) (fun g5 => ?_)
      ·
       exact Mach.ok_next (M := ZJ L0 a1 a2 N) (cd := 1000000) (cm := 0) (y := (.h1m0 (v3) (v4) ((v8 + 1)) : Zs)) (fu := 4000) (orc := (Zn [(0, true)] [(0, (((v5 + 1) : Nat) : Int)), (1, (((v8 + 1) : Nat) : Int))] [] [] [])) (live := [0]) (tv := fun _ => [some (ms eI L0), some (vi a1), some (vi a2), some (vp 0 0), some (vi (v4 : Int)), some (ms eI L0), some (vi (L0.length : Int)), some (vi (((v8 + 1) : Nat) : Int))]) (bl := [some (.cells (Zc eI v3) 31)]) (ob := [((IntKind.i64.wrap ((v8 : Int) + (1 : Int))) == (((v8 + 1) : Nat) : Int), true), ((decide ((((v5 + 1) : Nat) : Int) < a2)), true), ((IntKind.i64.wrap ((v5 : Int) + (1 : Int))) == (((v5 + 1) : Nat) : Int), true)]) rfl (show 1 ∈ Zp (Zcp 2) from by decide +kernel) (fun gv => by kernel_rfl) (Za (beq_iff_eq.2 ((wrap_i64 ltA).trans (by first | rfl | omega))) <| oY <| Za (beq_iff_eq.2 ((wrap_i64 ltA).trans (by first | rfl | omega))) Zf) rfl (by decide) (by rfl) (fun _ => ⟨rr, ⟨rr, ⟨rr, ⟨rr, ⟨rr, ⟨rr, ⟨rr, ⟨rr, trivial⟩⟩⟩⟩⟩⟩⟩⟩) ⟨(Zj (E := eI) (α := Int) _ v3 _), trivial⟩
      ·
       exact Mach.ok_none
     ·
      refine Mach.ok_ite (fun g5 => ?_) (fun g5 => ?_)
      ·
       exact Mach.ok_fin (M := ZJ L0 a1 a2 N) (cd := 1000000) (cm := 0) (r := (.r0 (false) : ZZ)) (fu := 4000) (orc := (Zn [(0, false), (1, true)] [(0, (((v5 + 1) : Nat) : Int))] [] [] [])) (live := []) (u := vf) (bl := []) (ob := [((decide ((v4 : Int) < a1)), true), ((decide ((((v5 + 1) : Nat) : Int) < a2)), false), ((IntKind.i64.wrap ((v5 : Int) + (1 : Int))) == (((v5 + 1) : Nat) : Int), true)]) (fun gv => by kernel_rfl) (oY <| oN <| Za (beq_iff_eq.2 ((wrap_i64 ltA).trans (by first | rfl | omega))) Zf) rfl (by decide) (by rfl) rr trivial
      ·
       refine Mach.ok_ite (fun g6 => ?_) (fun g6 => ?_)
       ·
        refine Mach.ok_ite (fun g7 => ?_) (fun g7 => ?_)
        ·
         refine Mach.ok_ite (fun g8 => ?_) (fun g8 => ?_)
         ·
          refine Mach.ok_ite (fun g9 => ?_) (fun g9 => ?_)
          ·
           refine Mach.ok_ite (fun g10 => ?_) (fun g10 => ?_)
           ·
            refine Mach.ok_ite (fun g11 => ?_) (fun g11 => ?_)
            ·
             refine Mach.ok_ite (fun g12 => ?_) (fun g12 => ?_)
             ·
              exact Mach.ok_next (M := ZJ L0 a1 a2 N) (cd := 1000000) (cm := 0) (y := (.h1m0 ((v3.set ((L0.getD (((((v5 + 1) : Nat) : Int) - a2)).toNat 0)).toNat (IntKind.i64.wrap ((v3.getD ((L0.getD (((((v5 + 1) : Nat) : Int) - a2)).toNat 0)).toNat 0) - (1 : Int))))) ((v4 - 1)) ((v8 + 1)) : Zs)) (fu := 4000) (orc := (Zn [(0, false), (1, false), (2, true), (3, true), (4, true)] [(0, (((v5 + 1) : Nat) : Int)), (1, (((v5 + 1) : Nat) : Int)), (2, ((((v5 + 1) : Nat) : Int) - a2)), (4, (((v4 - 1) : Nat) : Int)), (5, (((v8 + 1) : Nat) : Int))] [(0, (((((v5 + 1) : Nat) : Int) - a2)).toNat), (1, ((L0.getD (((((v5 + 1) : Nat) : Int) - a2)).toNat 0)).toNat), (2, ((L0.getD (((((v5 + 1) : Nat) : Int) - a2)).toNat 0)).toNat), (3, ((L0.getD (((((v5 + 1) : Nat) : Int) - a2)).toNat 0)).toNat)] [(0, [.i (L0.getD (((((v5 + 1) : Nat) : Int) - a2)).toNat 0)]), (1, [.i (v3.getD ((L0.getD (((((v5 + 1) : Nat) : Int) - a2)).toNat 0)).toNat 0)]), (2, [.i (IntKind.i64.wrap ((v3.getD ((L0.getD (((((v5 + 1) : Nat) : Int) - a2)).toNat 0)).toNat 0) - (1 : Int)))])] [(0, .st (Zc eI (v3.set ((L0.getD (((((v5 + 1) : Nat) : Int) - a2)).toNat 0)).toNat (IntKind.i64.wrap ((v3.getD ((L0.getD (((((v5 + 1) : Nat) : Int) - a2)).toNat 0)).toNat 0) - (1 : Int))))))])) (live := [0]) (tv := fun _ => [some (ms eI L0), some (vi a1), some (vi a2), some (vp 0 0), some (vi (((v4 - 1) : Nat) : Int)), some (ms eI L0), some (vi (L0.length : Int)), some (vi (((v8 + 1) : Nat) : Int))]) (bl := [some (.cells (Zc eI (v3.set ((L0.getD (((((v5 + 1) : Nat) : Int) - a2)).toNat 0)).toNat (IntKind.i64.wrap ((v3.getD ((L0.getD (((((v5 + 1) : Nat) : Int) - a2)).toNat 0)).toNat 0) - (1 : Int))))) 31)]) (ob := [((IntKind.i64.wrap ((v8 : Int) + (1 : Int))) == (((v8 + 1) : Nat) : Int), true), ((IntKind.i64.wrap ((v4 : Int) - (1 : Int))) == (((v4 - 1) : Nat) : Int), true), (((IntKind.i64.wrap ((v3.getD ((L0.getD (((((v5 + 1) : Nat) : Int) - a2)).toNat 0)).toNat 0) - (1 : Int))) == (0 : Int)), true), (ZL (Zo 1 (List.drop (0 + (((L0.getD (((((v5 + 1) : Nat) : Int) - a2)).toNat 0)).toNat * 1)) (Zc eI (v3.set ((L0.getD (((((v5 + 1) : Nat) : Int) - a2)).toNat 0)).toNat (IntKind.i64.wrap ((v3.getD ((L0.getD (((((v5 + 1) : Nat) : Int) - a2)).toNat 0)).toNat 0) - (1 : Int))))))) [.i (IntKind.i64.wrap ((v3.getD ((L0.getD (((((v5 + 1) : Nat) : Int) - a2)).toNat 0)).toNat 0) - (1 : Int)))], true), (Nat.blt ((L0.getD (((((v5 + 1) : Nat) : Int) - a2)).toNat 0)).toNat 64, true), ((L0.getD (((((v5 + 1) : Nat) : Int) - a2)).toNat 0) == Int.ofNat ((L0.getD (((((v5 + 1) : Nat) : Int) - a2)).toNat 0)).toNat, true), (dP ((0 + (((L0.getD (((((v5 + 1) : Nat) : Int) - a2)).toNat 0)).toNat * 1)) + ([vi (IntKind.i64.wrap ((v3.getD ((L0.getD (((((v5 + 1) : Nat) : Int) - a2)).toNat 0)).toNat 0) - (1 : Int)))] : List Value).length ≤ ((Zc eI v3) : List Value).length ∧ Zbh (Zc eI v3) (0 + (((L0.getD (((((v5 + 1) : Nat) : Int) - a2)).toNat 0)).toNat * 1)) [vi (IntKind.i64.wrap ((v3.getD ((L0.getD (((((v5 + 1) : Nat) : Int) - a2)).toNat 0)).toNat 0) - (1 : Int)))] = (Zc eI (v3.set ((L0.getD (((((v5 + 1) : Nat) : Int) - a2)).toNat 0)).toNat (IntKind.i64.wrap ((v3.getD ((L0.getD (((((v5 + 1) : Nat) : Int) - a2)).toNat 0)).toNat 0) - (1 : Int)))))), true), (Nat.blt ((L0.getD (((((v5 + 1) : Nat) : Int) - a2)).toNat 0)).toNat 64, true), ((L0.getD (((((v5 + 1) : Nat) : Int) - a2)).toNat 0) == Int.ofNat ((L0.getD (((((v5 + 1) : Nat) : Int) - a2)).toNat 0)).toNat, true), (ZL (Zo 1 (List.drop (0 + (((L0.getD (((((v5 + 1) : Nat) : Int) - a2)).toNat 0)).toNat * 1)) (Zc eI v3))) [.i (v3.getD ((L0.getD (((((v5 + 1) : Nat) : Int) - a2)).toNat 0)).toNat 0)], true), (Nat.blt ((L0.getD (((((v5 + 1) : Nat) : Int) - a2)).toNat 0)).toNat 64, true), ((L0.getD (((((v5 + 1) : Nat) : Int) - a2)).toNat 0) == Int.ofNat ((L0.getD (((((v5 + 1) : Nat) : Int) - a2)).toNat 0)).toNat, true), ((decide ((L0.getD (((((v5 + 1) : Nat) : Int) - a2)).toNat 0) < a1)), true), ((decide ((L0.getD (((((v5 + 1) : Nat) : Int) - a2)).toNat 0) ≥ (0 : Int))), true), (dP (ZK (code (Zl eI L0)) (0 + ((((((v5 + 1) : Nat) : Int) - a2)).toNat * 1)) 1 = some [.i (L0.getD (((((v5 + 1) : Nat) : Int) - a2)).toNat 0)]), true), (Nat.blt (((((v5 + 1) : Nat) : Int) - a2)).toNat L0.length, true), (((((v5 + 1) : Nat) : Int) - a2) == Int.ofNat (((((v5 + 1) : Nat) : Int) - a2)).toNat, true), ((IntKind.i64.wrap ((((v5 + 1) : Nat) : Int) - a2)) == ((((v5 + 1) : Nat) : Int) - a2), true), ((IntKind.i64.wrap ((v5 : Int) + (1 : Int))) == (((v5 + 1) : Nat) : Int), true), ((decide ((v4 : Int) < a1)), false), ((decide ((((v5 + 1) : Nat) : Int) < a2)), false), ((IntKind.i64.wrap ((v5 : Int) + (1 : Int))) == (((v5 + 1) : Nat) : Int), true)]) rfl (show 1 ∈ Zp (Zcp 2) from by decide +kernel) (fun gv => by kernel_rfl) (Za (beq_iff_eq.2 ((wrap_i64 ltA).trans (by first | rfl | omega))) <| Za (beq_iff_eq.2 ((wrap_i64 ltA).trans (by first | rfl | omega))) <| oT <| Za (Zw (E := eI) (L := (v3.set ((L0.getD (((((v5 + 1) : Nat) : Int) - a2)).toNat 0)).toNat (IntKind.i64.wrap ((v3.getD ((L0.getD (((((v5 + 1) : Nat) : Int) - a2)).toNat 0)).toNat 0) - (1 : Int))))) (i := ((L0.getD (((((v5 + 1) : Nat) : Int) - a2)).toNat 0)).toNat) (q := 0) ltA (show (0 + (((L0.getD (((((v5 + 1) : Nat) : Int) - a2)).toNat 0)).toNat * 1)) = ((L0.getD (((((v5 + 1) : Nat) : Int) - a2)).toNat 0)).toNat * 1 + 0 from by omega) (show 0 + 1 ≤ 1 from by decide) rfl (by rw [Zch ltA]; first | done | rfl)) <| oB <| oI <| Za (Zh (Zbx (E := eI) (L := v3) (i := ((L0.getD (((((v5 + 1) : Nat) : Int) - a2)).toNat 0)).toNat) (q := 0) (l := [vi (IntKind.i64.wrap ((v3.getD ((L0.getD (((((v5 + 1) : Nat) : Int) - a2)).toNat 0)).toNat 0) - (1 : Int)))]) (IntKind.i64.wrap ((v3.getD ((L0.getD (((((v5 + 1) : Nat) : Int) - a2)).toNat 0)).toNat 0) - (1 : Int))) (by omega) (show (0 + (((L0.getD (((((v5 + 1) : Nat) : Int) - a2)).toNat 0)).toNat * 1)) = ((L0.getD (((((v5 + 1) : Nat) : Int) - a2)).toNat 0)).toNat * 1 + 0 from by omega) (show 0 + 1 ≤ 1 from by decide) rfl)) <| oB <| oI <| Za (Zw (E := eI) (L := v3) (i := ((L0.getD (((((v5 + 1) : Nat) : Int) - a2)).toNat 0)).toNat) (q := 0) (by omega) (show (0 + (((L0.getD (((((v5 + 1) : Nat) : Int) - a2)).toNat 0)).toNat * 1)) = ((L0.getD (((((v5 + 1) : Nat) : Int) - a2)).toNat 0)).toNat * 1 + 0 from by omega) (show 0 + 1 ≤ 1 from by decide) rfl rfl) <| oB <| oI <| oY <| oY <| Za (Zh (ZbL (E := eI) (L := L0) (i := (((((v5 + 1) : Nat) : Int) - a2)).toNat) (q := 0) (by omega) (show (0 + ((((((v5 + 1) : Nat) : Int) - a2)).toNat * 1)) = (((((v5 + 1) : Nat) : Int) - a2)).toNat * 1 + 0 from by omega) (show 0 + 1 ≤ 1 from by decide) rfl)) <| oB <| oI <| Za (beq_iff_eq.2 ((wrap_i64 ltA).trans (by first | rfl | omega))) <| Za (beq_iff_eq.2 ((wrap_i64 ltA).trans (by first | rfl | omega))) <| oN <| oN <| Za (beq_iff_eq.2 ((wrap_i64 ltA).trans (by first | rfl | omega))) Zf) rfl (by decide) (by rfl) (fun _ => ⟨rr, ⟨rr, ⟨rr, ⟨rr, ⟨rr, ⟨rr, ⟨rr, ⟨rr, trivial⟩⟩⟩⟩⟩⟩⟩⟩) ⟨(Zj (E := eI) (α := Int) _ (v3.set ((L0.getD (((((v5 + 1) : Nat) : Int) - a2)).toNat 0)).toNat (IntKind.i64.wrap ((v3.getD ((L0.getD (((((v5 + 1) : Nat) : Int) - a2)).toNat 0)).toNat 0) - (1 : Int)))) _), trivial⟩
             ·
              exact Mach.ok_none
            ·
             exact Mach.ok_none
           ·
            refine Mach.ok_ite (fun g11 => ?_) (fun g11 => ?_)
            ·
             exact Mach.ok_next (M := ZJ L0 a1 a2 N) (cd := 1000000) (cm := 0) (y := (.h1m0 ((v3.set ((L0.getD (((((v5 + 1) : Nat) : Int) - a2)).toNat 0)).toNat (IntKind.i64.wrap ((v3.getD ((L0.getD (((((v5 + 1) : Nat) : Int) - a2)).toNat 0)).toNat 0) - (1 : Int))))) (v4) ((v8 + 1)) : Zs)) (fu := 4000) (orc := (Zn [(0, false), (1, false), (2, true), (3, true), (4, false)] [(0, (((v5 + 1) : Nat) : Int)), (1, (((v5 + 1) : Nat) : Int)), (2, ((((v5 + 1) : Nat) : Int) - a2)), (4, (((v8 + 1) : Nat) : Int))] [(0, (((((v5 + 1) : Nat) : Int) - a2)).toNat), (1, ((L0.getD (((((v5 + 1) : Nat) : Int) - a2)).toNat 0)).toNat), (2, ((L0.getD (((((v5 + 1) : Nat) : Int) - a2)).toNat 0)).toNat), (3, ((L0.getD (((((v5 + 1) : Nat) : Int) - a2)).toNat 0)).toNat)] [(0, [.i (L0.getD (((((v5 + 1) : Nat) : Int) - a2)).toNat 0)]), (1, [.i (v3.getD ((L0.getD (((((v5 + 1) : Nat) : Int) - a2)).toNat 0)).toNat 0)]), (2, [.i (IntKind.i64.wrap ((v3.getD ((L0.getD (((((v5 + 1) : Nat) : Int) - a2)).toNat 0)).toNat 0) - (1 : Int)))])] [(0, .st (Zc eI (v3.set ((L0.getD (((((v5 + 1) : Nat) : Int) - a2)).toNat 0)).toNat (IntKind.i64.wrap ((v3.getD ((L0.getD (((((v5 + 1) : Nat) : Int) - a2)).toNat 0)).toNat 0) - (1 : Int))))))])) (live := [0]) (tv := fun _ => [some (ms eI L0), some (vi a1), some (vi a2), some (vp 0 0), some (vi (v4 : Int)), some (ms eI L0), some (vi (L0.length : Int)), some (vi (((v8 + 1) : Nat) : Int))]) (bl := [some (.cells (Zc eI (v3.set ((L0.getD (((((v5 + 1) : Nat) : Int) - a2)).toNat 0)).toNat (IntKind.i64.wrap ((v3.getD ((L0.getD (((((v5 + 1) : Nat) : Int) - a2)).toNat 0)).toNat 0) - (1 : Int))))) 31)]) (ob := [((IntKind.i64.wrap ((v8 : Int) + (1 : Int))) == (((v8 + 1) : Nat) : Int), true), (((IntKind.i64.wrap ((v3.getD ((L0.getD (((((v5 + 1) : Nat) : Int) - a2)).toNat 0)).toNat 0) - (1 : Int))) == (0 : Int)), false), (ZL (Zo 1 (List.drop (0 + (((L0.getD (((((v5 + 1) : Nat) : Int) - a2)).toNat 0)).toNat * 1)) (Zc eI (v3.set ((L0.getD (((((v5 + 1) : Nat) : Int) - a2)).toNat 0)).toNat (IntKind.i64.wrap ((v3.getD ((L0.getD (((((v5 + 1) : Nat) : Int) - a2)).toNat 0)).toNat 0) - (1 : Int))))))) [.i (IntKind.i64.wrap ((v3.getD ((L0.getD (((((v5 + 1) : Nat) : Int) - a2)).toNat 0)).toNat 0) - (1 : Int)))], true), (Nat.blt ((L0.getD (((((v5 + 1) : Nat) : Int) - a2)).toNat 0)).toNat 64, true), ((L0.getD (((((v5 + 1) : Nat) : Int) - a2)).toNat 0) == Int.ofNat ((L0.getD (((((v5 + 1) : Nat) : Int) - a2)).toNat 0)).toNat, true), (dP ((0 + (((L0.getD (((((v5 + 1) : Nat) : Int) - a2)).toNat 0)).toNat * 1)) + ([vi (IntKind.i64.wrap ((v3.getD ((L0.getD (((((v5 + 1) : Nat) : Int) - a2)).toNat 0)).toNat 0) - (1 : Int)))] : List Value).length ≤ ((Zc eI v3) : List Value).length ∧ Zbh (Zc eI v3) (0 + (((L0.getD (((((v5 + 1) : Nat) : Int) - a2)).toNat 0)).toNat * 1)) [vi (IntKind.i64.wrap ((v3.getD ((L0.getD (((((v5 + 1) : Nat) : Int) - a2)).toNat 0)).toNat 0) - (1 : Int)))] = (Zc eI (v3.set ((L0.getD (((((v5 + 1) : Nat) : Int) - a2)).toNat 0)).toNat (IntKind.i64.wrap ((v3.getD ((L0.getD (((((v5 + 1) : Nat) : Int) - a2)).toNat 0)).toNat 0) - (1 : Int)))))), true), (Nat.blt ((L0.getD (((((v5 + 1) : Nat) : Int) - a2)).toNat 0)).toNat 64, true), ((L0.getD (((((v5 + 1) : Nat) : Int) - a2)).toNat 0) == Int.ofNat ((L0.getD (((((v5 + 1) : Nat) : Int) - a2)).toNat 0)).toNat, true), (ZL (Zo 1 (List.drop (0 + (((L0.getD (((((v5 + 1) : Nat) : Int) - a2)).toNat 0)).toNat * 1)) (Zc eI v3))) [.i (v3.getD ((L0.getD (((((v5 + 1) : Nat) : Int) - a2)).toNat 0)).toNat 0)], true), (Nat.blt ((L0.getD (((((v5 + 1) : Nat) : Int) - a2)).toNat 0)).toNat 64, true), ((L0.getD (((((v5 + 1) : Nat) : Int) - a2)).toNat 0) == Int.ofNat ((L0.getD (((((v5 + 1) : Nat) : Int) - a2)).toNat 0)).toNat, true), ((decide ((L0.getD (((((v5 + 1) : Nat) : Int) - a2)).toNat 0) < a1)), true), ((decide ((L0.getD (((((v5 + 1) : Nat) : Int) - a2)).toNat 0) ≥ (0 : Int))), true), (dP (ZK (code (Zl eI L0)) (0 + ((((((v5 + 1) : Nat) : Int) - a2)).toNat * 1)) 1 = some [.i (L0.getD (((((v5 + 1) : Nat) : Int) - a2)).toNat 0)]), true), (Nat.blt (((((v5 + 1) : Nat) : Int) - a2)).toNat L0.length, true), (((((v5 + 1) : Nat) : Int) - a2) == Int.ofNat (((((v5 + 1) : Nat) : Int) - a2)).toNat, true), ((IntKind.i64.wrap ((((v5 + 1) : Nat) : Int) - a2)) == ((((v5 + 1) : Nat) : Int) - a2), true), ((IntKind.i64.wrap ((v5 : Int) + (1 : Int))) == (((v5 + 1) : Nat) : Int), true), ((decide ((v4 : Int) < a1)), false), ((decide ((((v5 + 1) : Nat) : Int) < a2)), false), ((IntKind.i64.wrap ((v5 : Int) + (1 : Int))) == (((v5 + 1) : Nat) : Int), true)]) rfl (show 1 ∈ Zp (Zcp 2) from by decide +kernel) (fun gv => by kernel_rfl) (Za (beq_iff_eq.2 ((wrap_i64 ltA).trans (by first | rfl | omega))) <| oF <| Za (Zw (E := eI) (L := (v3.set ((L0.getD (((((v5 + 1) : Nat) : Int) - a2)).toNat 0)).toNat (IntKind.i64.wrap ((v3.getD ((L0.getD (((((v5 + 1) : Nat) : Int) - a2)).toNat 0)).toNat 0) - (1 : Int))))) (i := ((L0.getD (((((v5 + 1) : Nat) : Int) - a2)).toNat 0)).toNat) (q := 0) ltA (show (0 + (((L0.getD (((((v5 + 1) : Nat) : Int) - a2)).toNat 0)).toNat * 1)) = ((L0.getD (((((v5 + 1) : Nat) : Int) - a2)).toNat 0)).toNat * 1 + 0 from by omega) (show 0 + 1 ≤ 1 from by decide) rfl (by rw [Zch ltA]; first | done | rfl)) <| oB <| oI <| Za (Zh (Zbx (E := eI) (L := v3) (i := ((L0.getD (((((v5 + 1) : Nat) : Int) - a2)).toNat 0)).toNat) (q := 0) (l := [vi (IntKind.i64.wrap ((v3.getD ((L0.getD (((((v5 + 1) : Nat) : Int) - a2)).toNat 0)).toNat 0) - (1 : Int)))]) (IntKind.i64.wrap ((v3.getD ((L0.getD (((((v5 + 1) : Nat) : Int) - a2)).toNat 0)).toNat 0) - (1 : Int))) (by omega) (show (0 + (((L0.getD (((((v5 + 1) : Nat) : Int) - a2)).toNat 0)).toNat * 1)) = ((L0.getD (((((v5 + 1) : Nat) : Int) - a2)).toNat 0)).toNat * 1 + 0 from by omega) (show 0 + 1 ≤ 1 from by decide) rfl)) <| oB <| oI <| Za (Zw (E := eI) (L := v3) (i := ((L0.getD (((((v5 + 1) : Nat) : Int) - a2)).toNat 0)).toNat) (q := 0) (by omega) (show (0 + (((L0.getD (((((v5 + 1) : Nat) : Int) - a2)).toNat 0)).toNat * 1)) = ((L0.getD (((((v5 + 1) : Nat) : Int) - a2)).toNat 0)).toNat * 1 + 0 from by omega) (show 0 + 1 ≤ 1 from by decide) rfl rfl) <| oB <| oI <| oY <| oY <| Za (Zh (ZbL (E := eI) (L := L0) (i := (((((v5 + 1) : Nat) : Int) - a2)).toNat) (q := 0) (by omega) (show (0 + ((((((v5 + 1) : Nat) : Int) - a2)).toNat * 1)) = (((((v5 + 1) : Nat) : Int) - a2)).toNat * 1 + 0 from by omega) (show 0 + 1 ≤ 1 from by decide) rfl)) <| oB <| oI <| Za (beq_iff_eq.2 ((wrap_i64 ltA).trans (by first | rfl | omega))) <| Za (beq_iff_eq.2 ((wrap_i64 ltA).trans (by first | rfl | omega))) <| oN <| oN <| Za (beq_iff_eq.2 ((wrap_i64 ltA).trans (by first | rfl | omega))) Zf) rfl (by decide) (by rfl) (fun _ => ⟨rr, ⟨rr, ⟨rr, ⟨rr, ⟨rr, ⟨rr, ⟨rr, ⟨rr, trivial⟩⟩⟩⟩⟩⟩⟩⟩) ⟨(Zj (E := eI) (α := Int) _ (v3.set ((L0.getD (((((v5 + 1) : Nat) : Int) - a2)).toNat 0)).toNat (IntKind.i64.wrap ((v3.getD ((L0.getD (((((v5 + 1) : Nat) : Int) - a2)).toNat 0)).toNat 0) - (1 : Int)))) _), trivial⟩
            ·
             exact Mach.ok_none
          ·
           exact Mach.ok_none
         ·
          refine Mach.ok_ite (fun g9 => ?_) (fun g9 => ?_)
          ·
           exact Mach.ok_next (M := ZJ L0 a1 a2 N) (cd := 1000000) (cm := 0) (y := (.h1m0 (v3) (v4) ((v8 + 1)) : Zs)) (fu := 4000) (orc := (Zn [(0, false), (1, false), (2, true), (3, false)] [(0, (((v5 + 1) : Nat) : Int)), (1, (((v5 + 1) : Nat) : Int)), (2, ((((v5 + 1) : Nat) : Int) - a2)), (3, (((v8 + 1) : Nat) : Int))] [(0, (((((v5 + 1) : Nat) : Int) - a2)).toNat)] [(0, [.i (L0.getD (((((v5 + 1) : Nat) : Int) - a2)).toNat 0)])] [])) (live := [0]) (tv := fun _ => [some (ms eI L0), some (vi a1), some (vi a2), some (vp 0 0), some (vi (v4 : Int)), some (ms eI L0), some (vi (L0.length : Int)), some (vi (((v8 + 1) : Nat) : Int))]) (bl := [some (.cells (Zc eI v3) 31)]) (ob := [((IntKind.i64.wrap ((v8 : Int) + (1 : Int))) == (((v8 + 1) : Nat) : Int), true), ((decide ((L0.getD (((((v5 + 1) : Nat) : Int) - a2)).toNat 0) < a1)), false), ((decide ((L0.getD (((((v5 + 1) : Nat) : Int) - a2)).toNat 0) ≥ (0 : Int))), true), (dP (ZK (code (Zl eI L0)) (0 + ((((((v5 + 1) : Nat) : Int) - a2)).toNat * 1)) 1 = some [.i (L0.getD (((((v5 + 1) : Nat) : Int) - a2)).toNat 0)]), true), (Nat.blt (((((v5 + 1) : Nat) : Int) - a2)).toNat L0.length, true), (((((v5 + 1) : Nat) : Int) - a2) == Int.ofNat (((((v5 + 1) : Nat) : Int) - a2)).toNat, true), ((IntKind.i64.wrap ((((v5 + 1) : Nat) : Int) - a2)) == ((((v5 + 1) : Nat) : Int) - a2), true), ((IntKind.i64.wrap ((v5 : Int) + (1 : Int))) == (((v5 + 1) : Nat) : Int), true), ((decide ((v4 : Int) < a1)), false), ((decide ((((v5 + 1) : Nat) : Int) < a2)), false), ((IntKind.i64.wrap ((v5 : Int) + (1 : Int))) == (((v5 + 1) : Nat) : Int), true)]) rfl (show 1 ∈ Zp (Zcp 2) from by decide +kernel) (fun gv => by kernel_rfl) (Za (beq_iff_eq.2 ((wrap_i64 ltA).trans (by first | rfl | omega))) <| oN <| oY <| Za (Zh (ZbL (E := eI) (L := L0) (i := (((((v5 + 1) : Nat) : Int) - a2)).toNat) (q := 0) (by omega) (show (0 + ((((((v5 + 1) : Nat) : Int) - a2)).toNat * 1)) = (((((v5 + 1) : Nat) : Int) - a2)).toNat * 1 + 0 from by omega) (show 0 + 1 ≤ 1 from by decide) rfl)) <| oB <| oI <| Za (beq_iff_eq.2 ((wrap_i64 ltA).trans (by first | rfl | omega))) <| Za (beq_iff_eq.2 ((wrap_i64 ltA).trans (by first | rfl | omega))) <| oN <| oN <| Za (beq_iff_eq.2 ((wrap_i64 ltA).trans (by first | rfl | omega))) Zf) rfl (by decide) (by rfl) (fun _ => ⟨rr, ⟨rr, ⟨rr, ⟨rr, ⟨rr, ⟨rr, ⟨rr, ⟨rr, trivial⟩⟩⟩⟩⟩⟩⟩⟩) ⟨(Zj (E := eI) (α := Int) _ v3 _), trivial⟩
          ·
           exact Mach.ok_none
        ·
         refine Mach.ok_ite (fun g8 => ?_) (fun g8 => ?_)
         ·
          exact Mach.ok_next (M := ZJ L0 a1 a2 N) (cd := 1000000) (cm := 0) (y := (.h1m0 (v3) (v4) ((v8 + 1)) : Zs)) (fu := 4000) (orc := (Zn [(0, false), (1, false), (2, false)] [(0, (((v5 + 1) : Nat) : Int)), (1, (((v5 + 1) : Nat) : Int)), (2, ((((v5 + 1) : Nat) : Int) - a2)), (3, (((v8 + 1) : Nat) : Int))] [(0, (((((v5 + 1) : Nat) : Int) - a2)).toNat)] [(0, [.i (L0.getD (((((v5 + 1) : Nat) : Int) - a2)).toNat 0)])] [])) (live := [0]) (tv := fun _ => [some (ms eI L0), some (vi a1), some (vi a2), some (vp 0 0), some (vi (v4 : Int)), some (ms eI L0), some (vi (L0.length : Int)), some (vi (((v8 + 1) : Nat) : Int))]) (bl := [some (.cells (Zc eI v3) 31)]) (ob := [((IntKind.i64.wrap ((v8 : Int) + (1 : Int))) == (((v8 + 1) : Nat) : Int), true), ((decide ((L0.getD (((((v5 + 1) : Nat) : Int) - a2)).toNat 0) ≥ (0 : Int))), false), (dP (ZK (code (Zl eI L0)) (0 + ((((((v5 + 1) : Nat) : Int) - a2)).toNat * 1)) 1 = some [.i (L0.getD (((((v5 + 1) : Nat) : Int) - a2)).toNat 0)]), true), (Nat.blt (((((v5 + 1) : Nat) : Int) - a2)).toNat L0.length, true), (((((v5 + 1) : Nat) : Int) - a2) == Int.ofNat (((((v5 + 1) : Nat) : Int) - a2)).toNat, true), ((IntKind.i64.wrap ((((v5 + 1) : Nat) : Int) - a2)) == ((((v5 + 1) : Nat) : Int) - a2), true), ((IntKind.i64.wrap ((v5 : Int) + (1 : Int))) == (((v5 + 1) : Nat) : Int), true), ((decide ((v4 : Int) < a1)), false), ((decide ((((v5 + 1) : Nat) : Int) < a2)), false), ((IntKind.i64.wrap ((v5 : Int) + (1 : Int))) == (((v5 + 1) : Nat) : Int), true)]) rfl (show 1 ∈ Zp (Zcp 2) from by decide +kernel) (fun gv => by kernel_rfl) (Za (beq_iff_eq.2 ((wrap_i64 ltA).trans (by first | rfl | omega))) <| oN <| Za (Zh (ZbL (E := eI) (L := L0) (i := (((((v5 + 1) : Nat) : Int) - a2)).toNat) (q := 0) (by omega) (show (0 + ((((((v5 + 1) : Nat) : Int) - a2)).toNat * 1)) = (((((v5 + 1) : Nat) : Int) - a2)).toNat * 1 + 0 from by omega) (show 0 + 1 ≤ 1 from by decide) rfl)) <| oB <| oI <| Za (beq_iff_eq.2 ((wrap_i64 ltA).trans (by first | rfl | omega))) <| Za (beq_iff_eq.2 ((wrap_i64 ltA).trans (by first | rfl | omega))) <| oN <| oN <| Za (beq_iff_eq.2 ((wrap_i64 ltA).trans (by first | rfl | omega))) Zf) rfl (by decide) (by rfl) (fun _ => ⟨rr, ⟨rr, ⟨rr, ⟨rr, ⟨rr, ⟨rr, ⟨rr, ⟨rr, trivial⟩⟩⟩⟩⟩⟩⟩⟩) ⟨(Zj (E := eI) (α := Int) _ v3 _), trivial⟩
         ·
          exact Mach.ok_none
       ·
        exact Mach.ok_none
    ·
     exact Mach.ok_none
   ·
    exact Mach.ok_none
  ·
   exact Mach.ok_none
 ·
  exact Mach.ok_none

theorem Zmg (L0 : List Int) (a1 a2 : Int) (N : Nat) : (ZJ L0 a1 a2 N).Enter Tryz.prog Zy #[ms eI L0, vi a1, vi a2] (ZcE L0 a1 a2 N) := by
 unfold ZcE
 refine Mach.en_ite (fun g0 => ?_) (fun g0 => ?_)
 ·
  refine Mach.en_ite (fun g1 => ?_) (fun g1 => ?_)
  ·
   refine Mach.en_ite (fun g2 => ?_) (fun g2 => ?_)
   ·
    exact Mach.en_fin (M := ZJ L0 a1 a2 N) (cd := 1000000) (cm := 0) (r := (.r0 (false) : ZZ)) (fu := 4000) (orc := (Zn [(0, true), (1, true), (3, true)] [] [] [] [])) (live := []) (u := vf) (bl := []) (ob := [((decide (a2 < (1 : Int))), true), ((decide (a1 ≤ (64 : Int))), true), ((decide (a1 ≥ (1 : Int))), true)]) (by kernel_rfl) (oY <| oY <| oY Zf) rfl (by decide) (by rfl) rr trivial
   ·
    exact Mach.en_head (bK := Za4 1) (M := ZJ L0 a1 a2 N) (cd := 1000000) (cm := 0) (y := (.h1m0 ((List.replicate 64 (0 : Int))) (0) (0) : Zs)) (fu := 4000) (orc := (Zn [(0, true), (1, true), (3, false)] [] [] [] [])) (live := [0]) (tv := [some (ms eI L0), some (vi a1), some (vi a2), some (vp 0 0), some (vq), some (ms eI L0), some (vi (L0.length : Int)), some (vq)]) (bl := [some (.cells [vq, vq, vq, vq, vq, vq, vq, vq, vq, vq, vq, vq, vq, vq, vq, vq, vq, vq, vq, vq, vq, vq, vq, vq, vq, vq, vq, vq, vq, vq, vq, vq, vq, vq, vq, vq, vq, vq, vq, vq, vq, vq, vq, vq, vq, vq, vq, vq, vq, vq, vq, vq, vq, vq, vq, vq, vq, vq, vq, vq, vq, vq, vq, vq] 31)]) (ob := [((decide (a2 < (1 : Int))), false), ((decide (a1 ≤ (64 : Int))), true), ((decide (a1 ≥ (1 : Int))), true)]) rfl rfl (show Zp (Za4 1).2 = [] from rfl) (by kernel_rfl) (oN <| oY <| oY Zf) rfl (by decide) (by rfl) ⟨rr, ⟨rr, ⟨rr, ⟨rr, ⟨⟨Eq.trans (show (vi ((0 : Nat) : Int) : Value) = vq from (congrArg (Value.int .i64) (by first | rfl | omega))) (by rfl), by rfl⟩, ⟨rr, ⟨rr, ⟨⟨Eq.trans (show (vi ((0 : Nat) : Int) : Value) = vq from (congrArg (Value.int .i64) (by first | rfl | omega))) (by rfl), by rfl⟩, trivial⟩⟩⟩⟩⟩⟩⟩⟩ ⟨(ZhY (E := eI) _ (L := (List.replicate 64 (0 : Int))) _ (show ([vq, vq, vq, vq, vq, vq, vq, vq, vq, vq, vq, vq, vq, vq, vq, vq, vq, vq, vq, vq, vq, vq, vq, vq, vq, vq, vq, vq, vq, vq, vq, vq, vq, vq, vq, vq, vq, vq, vq, vq, vq, vq, vq, vq, vq, vq, vq, vq, vq, vq, vq, vq, vq, vq, vq, vq, vq, vq, vq, vq, vq, vq, vq, vq] : List Value) = Zc eI (List.replicate 64 (0 : Int)) from rfl)), trivial⟩
  ·
   exact Mach.en_fin (M := ZJ L0 a1 a2 N) (cd := 1000000) (cm := 0) (r := (.r0 (false) : ZZ)) (fu := 4000) (orc := (Zn [(0, true), (1, false)] [] [] [] [])) (live := []) (u := vf) (bl := []) (ob := [((decide (a1 ≤ (64 : Int))), false), ((decide (a1 ≥ (1 : Int))), true)]) (by kernel_rfl) (oN <| oY Zf) rfl (by decide) (by rfl) rr trivial
 ·
  exact Mach.en_fin (M := ZJ L0 a1 a2 N) (cd := 1000000) (cm := 0) (r := (.r0 (false) : ZZ)) (fu := 4000) (orc := (Zn [(0, false)] [] [] [] [])) (live := []) (u := vf) (bl := []) (ob := [((decide (a1 ≥ (1 : Int))), false)]) (by kernel_rfl) (oN Zf) rfl (by decide) (by rfl) rr trivial

theorem Zku (L0 : List Int) (a1 a2 : Int) (N : Nat) (r : ZZ) (h : Zcx L0 a1 a2 N = some r) : LSpec Tryz.prog 7 #[ms eI L0, vi a1, vi a2] [] (Zkt L0 a1 a2 r) (ZiX L0 a1 a2 r) :=
 Mach.spec Zds (ZJ L0 a1 a2 N) Tryz.func7 (by kernel_rfl) (by kernel_rfl) (fun x => by cases x <;> exact Zac _ rfl) (fun r => by cases r <;> exact Zac _ rfl) (fun x => by
  cases x with
  | h1m0 _ _ _ => exact fun _ => (show ¬ (1 ∈ Zp (Za4 1).2) from by decide +kernel)
  | h2m0 _ _ _ _ => exact fun _ => (show ¬ (2 ∈ Zp (Za4 2).2) from by decide +kernel)
  ) (fun x => (show (ZJ L0 a1 a2 N).Ok Tryz.prog Zy x (Zaq L0 a1 a2 N x) from by
  cases x with
  | h1m0 v3 v4 v7 => exact Zjm L0 a1 a2 v3 v4 v7 N
  | h2m0 v3 v4 v5 v8 => exact Zjn L0 a1 a2 v3 v4 v5 v8 N
  )) (Zmg L0 a1 a2 N) (n := N) h

noncomputable def Zbp (L0 : List Int) (a1 a2 : Int) (w0 : Bool) (n : Nat) : Zc2 := .call [] (Value.bool w0) [] 0
def Zba (A : Array Value) (L0 : List Int) (a1 a2 : Int) (w0 : Bool) (n : Nat) : Prop := ZX Tryz.prog 7 A [] (Value.bool w0) [] n 0

theorem Zbq (A : Array Value) (L0 : List Int) (a1 a2 : Int) (w0 : Bool) (N : Nat) (h : Zcx L0 a1 a2 N = some (.r0 w0)) (n : Nat) (hA : A = #[ms eI L0, vi a1, vi a2]) (hnd : ([] : List Nat).Nodup) (hlt : ∀ k ∈ ([] : List Nat), k < n) : Zba A L0 a1 a2 w0  n :=
 ZbZ hA (LSpec.callL (show LSpec Tryz.prog 7 #[ms eI L0, vi a1, vi a2] [] (Value.bool w0) [] from Zku L0 a1 a2 N _ h) [] n [] rfl hnd hlt (show 0 ≤ 0 from by decide) (show ∀ j ∈ ([] : List Nat), j < 0 from by decide) (by rfl) trivial (by rfl) trivial trivial rfl rfl rfl rfl rfl)

noncomputable def Zie (L0 : List Int) (a1 : Int) : Za1 → Value
 | .r0 w0 => Value.bool w0
noncomputable def Zhc (L0 : List Int) (a1 : Int) : Za1 → List (Option AObj)
 | .r0 w0 => []

def ZkU : Zaa → Nat
 | .h1m0 v2 => 1
noncomputable def Zmh (L0 : List Int) (a1 : Int) : Zaa → List (Nat × Value)
 | .h1m0 v2 => [(0, ms eI L0), (1, vi a1), (5, vi (v2 : Int))]
noncomputable def Zmi (L0 : List Int) (a1 : Int) : Zaa → List (Option AObj)
 | .h1m0 v2 => []

noncomputable def ZcP : Nat → Code × List ZS
 | 1 => ZaY [1, 0, 1, 3] (ZbC Tryz.f12) []
 | _ => (.skip, [])
def Zhd : Nat → Bool
 | 1 => true
 | _ => true
noncomputable def Zmj (i : Nat) : List ZS := match Zhd i with | true => .rnd i :: (ZcP i).2 | false => (ZcP i).2

noncomputable def Zbk (L0 : List Int) (a1 : Int) (N : Nat) : Mach := ⟨Tryz.f12, [], Zaa, Za1, ZaM L0 a1 N, ZkU, ZcP, Zhd, Zmh L0 a1, Zmi L0 a1, Zie L0 a1, Zhc L0 a1⟩

theorem Zif (L0 : List Int) (a1 : Int) (v2 N : Nat) : (Zbk L0 a1 N).Ok Tryz.prog Zy (.h1m0 v2 : Zaa) (ZaM L0 a1 N (.h1m0 v2 : Zaa)) := by
 show (Zbk L0 a1 N).Ok Tryz.prog Zy (.h1m0 v2 : Zaa) (Zas L0 a1 N v2)
 unfold Zas
 refine Mach.ok_ite (fun g0 => ?_) (fun g0 => ?_)
 ·
  refine Mach.ok_ite (fun g1 => ?_) (fun g1 => ?_)
  ·
   exact Mach.ok_fin (M := Zbk L0 a1 N) (cd := 1000000) (cm := 0) (r := (.r0 (true) : Za1)) (fu := 4000) (orc := (Zn [(0, true), (1, true)] [] [(0, v2)] [(0, [.i (L0.getD v2 0)])] [])) (live := []) (u := vT) (bl := []) (ob := [(((L0.getD v2 0) == a1), true), (dP (ZK (code (Zl eI L0)) (0 + (v2 * 1)) 1 = some [.i (L0.getD v2 0)]), true), (Nat.blt v2 L0.length, true), ((v2 : Int) == Int.ofNat v2, true), ((decide ((v2 : Int) < (L0.length : Int))), true)]) (fun gv => by kernel_rfl) (oT <| Za (Zh (ZbL (E := eI) (L := L0) (i := v2) (q := 0) (by omega) (show (0 + (v2 * 1)) = v2 * 1 + 0 from by omega) (show 0 + 1 ≤ 1 from by decide) rfl)) <| oB <| oI <| oY Zf) rfl (by decide) (by rfl) rr trivial
  ·
   refine Mach.ok_ite (fun g2 => ?_) (fun g2 => ?_)
   ·
    exact Mach.ok_next (M := Zbk L0 a1 N) (cd := 1000000) (cm := 0) (y := (.h1m0 ((v2 + 1)) : Zaa)) (fu := 4000) (orc := (Zn [(0, true), (1, false)] [(0, (((v2 + 1) : Nat) : Int))] [(0, v2)] [(0, [.i (L0.getD v2 0)])] [])) (live := []) (tv := fun _ => [some (ms eI L0), some (vi a1), some (vi (((v2 + 1) : Nat) : Int))]) (bl := []) (ob := [((IntKind.i64.wrap ((v2 : Int) + (1 : Int))) == (((v2 + 1) : Nat) : Int), true), (((L0.getD v2 0) == a1), false), (dP (ZK (code (Zl eI L0)) (0 + (v2 * 1)) 1 = some [.i (L0.getD v2 0)]), true), (Nat.blt v2 L0.length, true), ((v2 : Int) == Int.ofNat v2, true), ((decide ((v2 : Int) < (L0.length : Int))), true)]) rfl (show 1 ∈ Zp (Zmj 1) from by decide +kernel) (fun gv => by kernel_rfl) (Za (beq_iff_eq.2 ((wrap_i64 ltA).trans (by first | rfl | omega))) <| oF <| Za (Zh (ZbL (E := eI) (L := L0) (i := v2) (q := 0) (by omega) (show (0 + (v2 * 1)) = v2 * 1 + 0 from by omega) (show 0 + 1 ≤ 1 from by decide) rfl)) <| oB <| oI <| oY Zf) rfl (by decide) (by rfl) (fun _ => ⟨rr, ⟨rr, ⟨rr, trivial⟩⟩⟩) trivial
   ·
    exact Mach.ok_none
 ·
  exact Mach.ok_fin (M := Zbk L0 a1 N) (cd := 1000000) (cm := 0) (r := (.r0 (false) : Za1)) (fu := 4000) (orc := (Zn [(0, false)] [] [] [] [])) (live := []) (u := vf) (bl := []) (ob := [((decide ((v2 : Int) < (L0.length : Int))), false)]) (fun gv => by kernel_rfl) (oN Zf) rfl (by decide) (by rfl) rr trivial

theorem Zkv (L0 : List Int) (a1 : Int) (N : Nat) : (Zbk L0 a1 N).Enter Tryz.prog Zy #[ms eI L0, vi a1] (ZeQ L0 a1 N) := by
 unfold ZeQ
 exact Mach.en_head (bK := ZcP 1) (M := Zbk L0 a1 N) (cd := 1000000) (cm := 0) (y := (.h1m0 (0) : Zaa)) (fu := 4000) (orc := (Zn [] [] [] [] [])) (live := []) (tv := [some (ms eI L0), some (vi a1), some (vq)]) (bl := []) (ob := []) rfl rfl (show Zp (ZcP 1).2 = [] from rfl) (by kernel_rfl) Zf rfl (by decide) (by rfl) ⟨rr, ⟨rr, ⟨⟨Eq.trans (show (vi ((0 : Nat) : Int) : Value) = vq from (congrArg (Value.int .i64) (by first | rfl | omega))) (by rfl), by rfl⟩, trivial⟩⟩⟩ trivial

theorem Zi5 (L0 : List Int) (a1 : Int) (N : Nat) (r : Za1) (h : ZeH L0 a1 N = some r) : LSpec Tryz.prog 12 #[ms eI L0, vi a1] [] (Zie L0 a1 r) (Zhc L0 a1 r) :=
 Mach.spec Zds (Zbk L0 a1 N) Tryz.func12 (by kernel_rfl) (by kernel_rfl) (fun x => by cases x <;> exact Zac _ rfl) (fun r => by cases r <;> exact Zac _ rfl) (fun x => by
  cases x with
  | h1m0 _ => exact fun _ => (show ¬ (1 ∈ Zp (ZcP 1).2) from by decide +kernel)
  ) (fun x => (show (Zbk L0 a1 N).Ok Tryz.prog Zy x (ZaM L0 a1 N x) from by
  cases x with
  | h1m0 v2 => exact Zif L0 a1 v2 N
  )) (Zkv L0 a1 N) (n := N) h

noncomputable def Zhe (L0 : List Int) (a1 : Int) (w0 : Bool) (n : Nat) : Zc2 := .call [] (Value.bool w0) [] 0
def ZeR (A : Array Value) (L0 : List Int) (a1 : Int) (w0 : Bool) (n : Nat) : Prop := ZX Tryz.prog 12 A [] (Value.bool w0) [] n 0

theorem Zhf (A : Array Value) (L0 : List Int) (a1 : Int) (w0 : Bool) (N : Nat) (h : ZeH L0 a1 N = some (.r0 w0)) (n : Nat) (hA : A = #[ms eI L0, vi a1]) (hnd : ([] : List Nat).Nodup) (hlt : ∀ k ∈ ([] : List Nat), k < n) : ZeR A L0 a1 w0  n :=
 ZbZ hA (LSpec.callL (show LSpec Tryz.prog 12 #[ms eI L0, vi a1] [] (Value.bool w0) [] from Zi5 L0 a1 N _ h) [] n [] rfl hnd hlt (show 0 ≤ 0 from by decide) (show ∀ j ∈ ([] : List Nat), j < 0 from by decide) (by rfl) trivial (by rfl) trivial trivial rfl rfl rfl rfl rfl)

noncomputable def ZiZ (L0 : List Int) (a1 a2 : Int) : ZN → Value
 | .r0 w0 => Value.bool w0
noncomputable def Zig (L0 : List Int) (a1 a2 : Int) : ZN → List (Option AObj)
 | .r0 w0 => []

def Zmk : Z9 → Nat
 | .h1m0 v3 => 1
 | .h2m0 v3 v4 => 2
noncomputable def ZmS (L0 : List Int) (a1 a2 : Int) : Z9 → List (Nat × Value)
 | .h1m0 v3 => [(0, ms eI L0), (1, vi a1), (2, vi a2), (7, vi (v3 : Int))]
 | .h2m0 v3 v4 => [(0, ms eI L0), (1, vi a1), (2, vi a2), (7, vi (v3 : Int)), (8, vi (v4 : Int))]
noncomputable def ZmT (L0 : List Int) (a1 a2 : Int) : Z9 → List (Option AObj)
 | .h1m0 v3 => []
 | .h2m0 v3 v4 => []

noncomputable def ZbH : Nat → Code × List ZS
 | 1 => ZaY [1, 1, 0, 1, 3] (ZbC Tryz.f8) []
 | 2 => ZaY [1, 1, 0, 1, 3, 7, 1, 0, 3, 1, 3] (ZbC Tryz.f8) []
 | _ => (.skip, [])
def Zih : Nat → Bool
 | 1 => true
 | 2 => true
 | _ => true
noncomputable def Zg7 (i : Nat) : List ZS := match Zih i with | true => .rnd i :: (ZbH i).2 | false => (ZbH i).2

noncomputable def Zag (L0 : List Int) (a1 a2 : Int) (N : Nat) : Mach := ⟨Tryz.f8, [], Z9, ZN, ZO L0 a1 a2 N, Zmk, ZbH, Zih, ZmS L0 a1 a2, ZmT L0 a1 a2, ZiZ L0 a1 a2, Zig L0 a1 a2⟩

theorem Zi6 (L0 : List Int) (a1 a2 : Int) (v3 N : Nat) : (Zag L0 a1 a2 N).Ok Tryz.prog Zy (.h1m0 v3 : Z9) (ZO L0 a1 a2 N (.h1m0 v3 : Z9)) := by
 show (Zag L0 a1 a2 N).Ok Tryz.prog Zy (.h1m0 v3 : Z9) (Zbe L0 a1 a2 N v3)
 unfold Zbe
 refine Mach.ok_ite (fun g0 => ?_) (fun g0 => ?_)
 ·
  refine Mach.ok_ite (fun g1 => ?_) (fun g1 => ?_)
  ·
   refine Mach.ok_ite (fun g2 => ?_) (fun g2 => ?_)
   ·
    refine Mach.ok_ite (fun g3 => ?_) (fun g3 => ?_)
    ·
     exact Mach.ok_head (bK := ZbH 2) (M := Zag L0 a1 a2 N) (cd := 1000000) (cm := 0) (y := (.h2m0 (v3) (0) : Z9)) (fu := 4000) (orc := (Zn [(0, true)] [] [] [] [])) (live := []) (tv := fun _ => [some (ms eI L0), some (vi a1), some (vi a2), some (vi (v3 : Int)), some (vq)]) (bl := []) (ob := [((decide ((v3 : Int) ≤ (IntKind.i64.wrap ((L0.length : Int) - a2)))), true)]) rfl rfl (show ∀ j ∈ Zp (ZbH 2).2, j ∈ Zp (Zg7 1) from by decide +kernel) (fun gv => by kernel_rfl) (oY Zf) rfl (by decide) (by rfl) (fun _ => ⟨rr, ⟨rr, ⟨rr, ⟨rr, ⟨⟨Eq.trans (show (vi ((0 : Nat) : Int) : Value) = vq from (congrArg (Value.int .i64) (by first | rfl | omega))) (by rfl), by rfl⟩, trivial⟩⟩⟩⟩⟩) trivial
    ·
     exact Mach.ok_fin (M := Zag L0 a1 a2 N) (cd := 1000000) (cm := 0) (r := (.r0 (true) : ZN)) (fu := 4000) (orc := (Zn [(0, false)] [] [] [] [])) (live := []) (u := vT) (bl := []) (ob := [((decide ((v3 : Int) ≤ (IntKind.i64.wrap ((L0.length : Int) - a2)))), false)]) (fun gv => by kernel_rfl) (oN Zf) rfl (by decide) (by rfl) rr trivial
   ·
    exact Mach.ok_none
  ·
   exact Mach.ok_none
 ·
  exact Mach.ok_none

theorem Zi7 (L0 : List Int) (a1 a2 : Int) (v3 v4 N : Nat) : (Zag L0 a1 a2 N).Ok Tryz.prog Zy (.h2m0 v3 v4 : Z9) (ZO L0 a1 a2 N (.h2m0 v3 v4 : Z9)) := by
 show (Zag L0 a1 a2 N).Ok Tryz.prog Zy (.h2m0 v3 v4 : Z9) (Za2 L0 a1 a2 N v3 v4)
 unfold Za2
 refine Mach.ok_ite (fun g0 => ?_) (fun g0 => ?_)
 ·
  refine Mach.ok_ite (fun g1 => ?_) (fun g1 => ?_)
  ·
   refine Mach.ok_ite (fun g2 => ?_) (fun g2 => ?_)
   ·
    refine Mach.ok_ite (fun g3 => ?_) (fun g3 => ?_)
    ·
     refine Mach.ok_ite (fun g4 => ?_) (fun g4 => ?_)
     ·
      refine Mach.ok_ite (fun g5 => ?_) (fun g5 => ?_)
      ·
       refine Mach.ok_bind (fun z6 c6 => ?_)
       cases z6 with
       | r0 y6_0 =>
        refine Mach.ok_ite (fun g7 => ?_) (fun g7 => ?_)
        ·
         exact Mach.ok_fin (M := Zag L0 a1 a2 N) (cd := 1000000) (cm := 0) (r := (.r0 (false) : ZN)) (fu := 4000) (orc := (Zn [(0, true), (1, true)] [] [] [] [(0, .ms v3 ((IntKind.i64.wrap ((v3 : Int) + a2))).toNat ((L0.drop v3).take (((IntKind.i64.wrap ((v3 : Int) + a2))).toNat - v3)).length (Zl eI ((L0.drop v3).take (((IntKind.i64.wrap ((v3 : Int) + a2))).toNat - v3)))), (1, (Zhe (((L0.drop v3).take (((IntKind.i64.wrap ((v3 : Int) + a2))).toNat - v3))) ((v4 : Int))  y6_0  0))])) (live := []) (u := vf) (bl := []) (ob := [((!y6_0), true), (dP (ZeR #[ms eI ((L0.drop v3).take (((IntKind.i64.wrap ((v3 : Int) + a2))).toNat - v3)), vi (v4 : Int)] (((L0.drop v3).take (((IntKind.i64.wrap ((v3 : Int) + a2))).toNat - v3))) ((v4 : Int))  y6_0  0), true), (dP (v3 ≤ ((IntKind.i64.wrap ((v3 : Int) + a2))).toNat ∧ ((IntKind.i64.wrap ((v3 : Int) + a2))).toNat ≤ L0.length ∧ ZK (code (Zl eI L0)) (0 + v3 * 1) (Zl eI ((L0.drop v3).take (((IntKind.i64.wrap ((v3 : Int) + a2))).toNat - v3))).length = some (Zl eI ((L0.drop v3).take (((IntKind.i64.wrap ((v3 : Int) + a2))).toNat - v3))) ∧ (((IntKind.i64.wrap ((v3 : Int) + a2))).toNat - v3) * 1 = (Zl eI ((L0.drop v3).take (((IntKind.i64.wrap ((v3 : Int) + a2))).toNat - v3))).length ∧ ((L0.drop v3).take (((IntKind.i64.wrap ((v3 : Int) + a2))).toNat - v3)).length = ((IntKind.i64.wrap ((v3 : Int) + a2))).toNat - v3), true), ((IntKind.i64.wrap ((v3 : Int) + a2)) == Int.ofNat ((IntKind.i64.wrap ((v3 : Int) + a2))).toNat, true), ((v3 : Int) == Int.ofNat v3, true), ((decide ((v4 : Int) < a1)), true)]) (fun gv => by kernel_rfl) (Za (ZmL (by first | assumption | simp_all)) <| Za (Zh (Zhf #[ms eI ((L0.drop v3).take (((IntKind.i64.wrap ((v3 : Int) + a2))).toNat - v3)), vi (v4 : Int)] (((L0.drop v3).take (((IntKind.i64.wrap ((v3 : Int) + a2))).toNat - v3))) ((v4 : Int))  y6_0 N c6  0 rfl (by decide) (by decide))) <| Za (Zh (ZcN (E := eI) (L := L0) (R := ((L0.drop v3).take (((IntKind.i64.wrap ((v3 : Int) + a2))).toNat - v3))) (l := v3) (h := ((IntKind.i64.wrap ((v3 : Int) + a2))).toNat) (size := 1) ltA ltA (by decide) (by simp))) <| oI <| oI <| oY Zf) rfl (by decide) (by rfl) rr trivial
        ·
         exact Mach.ok_next (M := Zag L0 a1 a2 N) (cd := 1000000) (cm := 0) (y := (.h2m0 (v3) ((v4 + 1)) : Z9)) (fu := 4000) (orc := (Zn [(0, true), (1, false)] [(1, (((v4 + 1) : Nat) : Int))] [] [] [(0, .ms v3 ((IntKind.i64.wrap ((v3 : Int) + a2))).toNat ((L0.drop v3).take (((IntKind.i64.wrap ((v3 : Int) + a2))).toNat - v3)).length (Zl eI ((L0.drop v3).take (((IntKind.i64.wrap ((v3 : Int) + a2))).toNat - v3)))), (1, (Zhe (((L0.drop v3).take (((IntKind.i64.wrap ((v3 : Int) + a2))).toNat - v3))) ((v4 : Int))  y6_0  0))])) (live := []) (tv := fun _ => [some (ms eI L0), some (vi a1), some (vi a2), some (vi (v3 : Int)), some (vi (((v4 + 1) : Nat) : Int))]) (bl := []) (ob := [((IntKind.i64.wrap ((v4 : Int) + (1 : Int))) == (((v4 + 1) : Nat) : Int), true), ((!y6_0), false), (dP (ZeR #[ms eI ((L0.drop v3).take (((IntKind.i64.wrap ((v3 : Int) + a2))).toNat - v3)), vi (v4 : Int)] (((L0.drop v3).take (((IntKind.i64.wrap ((v3 : Int) + a2))).toNat - v3))) ((v4 : Int))  y6_0  0), true), (dP (v3 ≤ ((IntKind.i64.wrap ((v3 : Int) + a2))).toNat ∧ ((IntKind.i64.wrap ((v3 : Int) + a2))).toNat ≤ L0.length ∧ ZK (code (Zl eI L0)) (0 + v3 * 1) (Zl eI ((L0.drop v3).take (((IntKind.i64.wrap ((v3 : Int) + a2))).toNat - v3))).length = some (Zl eI ((L0.drop v3).take (((IntKind.i64.wrap ((v3 : Int) + a2))).toNat - v3))) ∧ (((IntKind.i64.wrap ((v3 : Int) + a2))).toNat - v3) * 1 = (Zl eI ((L0.drop v3).take (((IntKind.i64.wrap ((v3 : Int) + a2))).toNat - v3))).length ∧ ((L0.drop v3).take (((IntKind.i64.wrap ((v3 : Int) + a2))).toNat - v3)).length = ((IntKind.i64.wrap ((v3 : Int) + a2))).toNat - v3), true), ((IntKind.i64.wrap ((v3 : Int) + a2)) == Int.ofNat ((IntKind.i64.wrap ((v3 : Int) + a2))).toNat, true), ((v3 : Int) == Int.ofNat v3, true), ((decide ((v4 : Int) < a1)), true)]) rfl (show 2 ∈ Zp (Zg7 2) from by decide +kernel) (fun gv => by kernel_rfl) (Za (beq_iff_eq.2 ((wrap_i64 ltA).trans (by first | rfl | omega))) <| Za (Zfq (by first | assumption | exact Decidable.not_not.1 (by assumption) | simp_all)) <| Za (Zh (Zhf #[ms eI ((L0.drop v3).take (((IntKind.i64.wrap ((v3 : Int) + a2))).toNat - v3)), vi (v4 : Int)] (((L0.drop v3).take (((IntKind.i64.wrap ((v3 : Int) + a2))).toNat - v3))) ((v4 : Int))  y6_0 N c6  0 rfl (by decide) (by decide))) <| Za (Zh (ZcN (E := eI) (L := L0) (R := ((L0.drop v3).take (((IntKind.i64.wrap ((v3 : Int) + a2))).toNat - v3))) (l := v3) (h := ((IntKind.i64.wrap ((v3 : Int) + a2))).toNat) (size := 1) ltA ltA (by decide) (by simp))) <| oI <| oI <| oY Zf) rfl (by decide) (by rfl) (fun _ => ⟨rr, ⟨rr, ⟨rr, ⟨rr, ⟨rr, trivial⟩⟩⟩⟩⟩) trivial
      ·
       exact Mach.ok_none
     ·
      exact Mach.ok_none
    ·
     refine Mach.ok_ite (fun g4 => ?_) (fun g4 => ?_)
     ·
      exact Mach.ok_next (M := Zag L0 a1 a2 N) (cd := 1000000) (cm := 0) (y := (.h1m0 ((v3 + 1)) : Z9)) (fu := 4000) (orc := (Zn [(0, false)] [(0, (((v3 + 1) : Nat) : Int))] [] [] [])) (live := []) (tv := fun _ => [some (ms eI L0), some (vi a1), some (vi a2), some (vi (((v3 + 1) : Nat) : Int))]) (bl := []) (ob := [((IntKind.i64.wrap ((v3 : Int) + (1 : Int))) == (((v3 + 1) : Nat) : Int), true), ((decide ((v4 : Int) < a1)), false)]) rfl (show 1 ∈ Zp (Zg7 2) from by decide +kernel) (fun gv => by kernel_rfl) (Za (beq_iff_eq.2 ((wrap_i64 ltA).trans (by first | rfl | omega))) <| oN Zf) rfl (by decide) (by rfl) (fun _ => ⟨rr, ⟨rr, ⟨rr, ⟨rr, trivial⟩⟩⟩⟩) trivial
     ·
      exact Mach.ok_none
   ·
    exact Mach.ok_none
  ·
   exact Mach.ok_none
 ·
  exact Mach.ok_none

theorem ZkV (L0 : List Int) (a1 a2 : Int) (N : Nat) : (Zag L0 a1 a2 N).Enter Tryz.prog Zy #[ms eI L0, vi a1, vi a2] (Zco L0 a1 a2 N) := by
 unfold Zco
 refine Mach.en_ite (fun g0 => ?_) (fun g0 => ?_)
 ·
  exact Mach.en_fin (M := Zag L0 a1 a2 N) (cd := 1000000) (cm := 0) (r := (.r0 (false) : ZN)) (fu := 4000) (orc := (Zn [(0, true)] [] [] [] [])) (live := []) (u := vf) (bl := []) (ob := [((decide (a1 < (1 : Int))), true)]) (by kernel_rfl) (oY Zf) rfl (by decide) (by rfl) rr trivial
 ·
  refine Mach.en_ite (fun g1 => ?_) (fun g1 => ?_)
  ·
   exact Mach.en_fin (M := Zag L0 a1 a2 N) (cd := 1000000) (cm := 0) (r := (.r0 (false) : ZN)) (fu := 4000) (orc := (Zn [(0, false), (1, true)] [] [] [] [])) (live := []) (u := vf) (bl := []) (ob := [((decide (a1 > (64 : Int))), true), ((decide (a1 < (1 : Int))), false)]) (by kernel_rfl) (oY <| oN Zf) rfl (by decide) (by rfl) rr trivial
  ·
   refine Mach.en_ite (fun g2 => ?_) (fun g2 => ?_)
   ·
    exact Mach.en_fin (M := Zag L0 a1 a2 N) (cd := 1000000) (cm := 0) (r := (.r0 (false) : ZN)) (fu := 4000) (orc := (Zn [(0, false), (1, false), (2, true)] [] [] [] [])) (live := []) (u := vf) (bl := []) (ob := [((decide (a2 < (1 : Int))), true), ((decide (a1 > (64 : Int))), false), ((decide (a1 < (1 : Int))), false)]) (by kernel_rfl) (oY <| oN <| oN Zf) rfl (by decide) (by rfl) rr trivial
   ·
    exact Mach.en_head (bK := ZbH 1) (M := Zag L0 a1 a2 N) (cd := 1000000) (cm := 0) (y := (.h1m0 (0) : Z9)) (fu := 4000) (orc := (Zn [(0, false), (1, false), (2, false)] [] [] [] [])) (live := []) (tv := [some (ms eI L0), some (vi a1), some (vi a2), some (vq)]) (bl := []) (ob := [((decide (a2 < (1 : Int))), false), ((decide (a1 > (64 : Int))), false), ((decide (a1 < (1 : Int))), false)]) rfl rfl (show Zp (ZbH 1).2 = [] from rfl) (by kernel_rfl) (oN <| oN <| oN Zf) rfl (by decide) (by rfl) ⟨rr, ⟨rr, ⟨rr, ⟨⟨Eq.trans (show (vi ((0 : Nat) : Int) : Value) = vq from (congrArg (Value.int .i64) (by first | rfl | omega))) (by rfl), by rfl⟩, trivial⟩⟩⟩⟩ trivial

theorem Zjo (L0 : List Int) (a1 a2 : Int) (N : Nat) (r : ZN) (h : ZbM L0 a1 a2 N = some r) : LSpec Tryz.prog 8 #[ms eI L0, vi a1, vi a2] [] (ZiZ L0 a1 a2 r) (Zig L0 a1 a2 r) :=
 Mach.spec Zds (Zag L0 a1 a2 N) Tryz.func8 (by kernel_rfl) (by kernel_rfl) (fun x => by cases x <;> exact Zac _ rfl) (fun r => by cases r <;> exact Zac _ rfl) (fun x => by
  cases x with
  | h1m0 _ => exact fun _ => (show ¬ (1 ∈ Zp (ZbH 1).2) from by decide +kernel)
  | h2m0 _ _ => exact fun _ => (show ¬ (2 ∈ Zp (ZbH 2).2) from by decide +kernel)
  ) (fun x => (show (Zag L0 a1 a2 N).Ok Tryz.prog Zy x (ZO L0 a1 a2 N x) from by
  cases x with
  | h1m0 v3 => exact Zi6 L0 a1 a2 v3 N
  | h2m0 v3 v4 => exact Zi7 L0 a1 a2 v3 v4 N
  )) (ZkV L0 a1 a2 N) (n := N) h

noncomputable def ZaU (L0 : List Int) (a1 a2 : Int) (w0 : Bool) (n : Nat) : Zc2 := .call [] (Value.bool w0) [] 0
def ZaF (A : Array Value) (L0 : List Int) (a1 a2 : Int) (w0 : Bool) (n : Nat) : Prop := ZX Tryz.prog 8 A [] (Value.bool w0) [] n 0

theorem ZaV (A : Array Value) (L0 : List Int) (a1 a2 : Int) (w0 : Bool) (N : Nat) (h : ZbM L0 a1 a2 N = some (.r0 w0)) (n : Nat) (hA : A = #[ms eI L0, vi a1, vi a2]) (hnd : ([] : List Nat).Nodup) (hlt : ∀ k ∈ ([] : List Nat), k < n) : ZaF A L0 a1 a2 w0  n :=
 ZbZ hA (LSpec.callL (show LSpec Tryz.prog 8 #[ms eI L0, vi a1, vi a2] [] (Value.bool w0) [] from Zjo L0 a1 a2 N _ h) [] n [] rfl hnd hlt (show 0 ≤ 0 from by decide) (show ∀ j ∈ ([] : List Nat), j < 0 from by decide) (by rfl) trivial (by rfl) trivial trivial rfl rfl rfl rfl rfl)

noncomputable def Zii (a0 a1 : Int) : ZP → Value
 | .r0 w0 => Value.bool w0
noncomputable def Zhg (a0 a1 : Int) : ZP → List (Option AObj)
 | .r0 w0 => []

def ZkW : Zat → Nat
 | .h1m0 => 1
noncomputable def Zml (a0 a1 : Int) : Zat → List (Nat × Value)
 | .h1m0 => [(0, vn), (1, vi a0), (2, vi a1), (7, vp 0 0), (8, vq), (19, vn), (20, vq), (21, vq)]
noncomputable def Zmm (a0 a1 : Int) : Zat → List (Option AObj)
 | .h1m0 => [some (.cells [vq, vq, vq, vq, vq, vq, vq, vq, vq, vq, vq, vq, vq, vq, vq, vq, vq, vq, vq, vq, vq, vq, vq, vq, vq, vq, vq, vq, vq, vq, vq, vq, vq, vq, vq, vq, vq, vq, vq, vq, vq, vq, vq, vq, vq, vq, vq, vq, vq, vq, vq, vq, vq, vq, vq, vq, vq, vq, vq, vq, vq, vq, vq, vq] 31)]

noncomputable def Zei : Nat → Code × List ZS
 | 1 => ZaY [1, 2, 1, 1, 1, 1, 0, 1, 3] (ZbC Tryz.f7) []
 | _ => (.skip, [])
def ZkX : Nat → Bool
 | 1 => true
 | _ => true
noncomputable def ZaW (a0 a1 : Int) (N : Nat) : Mach := ⟨Tryz.f7, [], Zat, ZP, Zcq a0 a1 N, ZkW, Zei, ZkX, Zml a0 a1, Zmm a0 a1, Zii a0 a1, Zhg a0 a1⟩

theorem Zij (a0 a1 : Int) (N : Nat) : (ZaW a0 a1 N).Ok Tryz.prog Zy (.h1m0 : Zat) (Zcq a0 a1 N (.h1m0 : Zat)) := by
 show (ZaW a0 a1 N).Ok Tryz.prog Zy (.h1m0 : Zat) (Zca a0 a1 N)
 unfold Zca
 refine Mach.ok_ite (fun g0 => ?_) (fun g0 => ?_)
 ·
  refine Mach.ok_ite (fun g1 => ?_) (fun g1 => ?_)
  ·
   refine Mach.ok_ite (fun g2 => ?_) (fun g2 => ?_)
   ·
    exact Mach.ok_fin (M := ZaW a0 a1 N) (cd := 1000000) (cm := 0) (r := (.r0 (true) : ZP)) (fu := 4000) (orc := (Zn [] [] [] [] [])) (live := []) (u := vT) (bl := []) (ob := []) (fun gv => by kernel_rfl) Zf rfl (by decide) (by rfl) rr trivial
   ·
    exact Mach.ok_none
  ·
   exact Mach.ok_none
 ·
  exact Mach.ok_none

theorem Zkw (a0 a1 : Int) (N : Nat) : (ZaW a0 a1 N).Enter Tryz.prog Zy #[vn, vi a0, vi a1] (Zd3 a0 a1 N) := by
 unfold Zd3
 refine Mach.en_ite (fun g0 => ?_) (fun g0 => ?_)
 ·
  refine Mach.en_ite (fun g1 => ?_) (fun g1 => ?_)
  ·
   refine Mach.en_ite (fun g2 => ?_) (fun g2 => ?_)
   ·
    exact Mach.en_fin (M := ZaW a0 a1 N) (cd := 1000000) (cm := 0) (r := (.r0 (false) : ZP)) (fu := 4000) (orc := (Zn [(0, true), (1, true), (3, true)] [] [] [] [])) (live := []) (u := vf) (bl := []) (ob := [((decide (a1 < (1 : Int))), true), ((decide (a0 ≤ (64 : Int))), true), ((decide (a0 ≥ (1 : Int))), true)]) (by kernel_rfl) (oY <| oY <| oY Zf) rfl (by decide) (by rfl) rr trivial
   ·
    exact Mach.en_head (bK := Zei 1) (M := ZaW a0 a1 N) (cd := 1000000) (cm := 0) (y := (.h1m0 : Zat)) (fu := 4000) (orc := (Zn [(0, true), (1, true), (3, false)] [] [] [] [])) (live := [0]) (tv := [some (vn), some (vi a0), some (vi a1), some (vp 0 0), some (vq), some (vn), some (vq), some (vq)]) (bl := [some (.cells [vq, vq, vq, vq, vq, vq, vq, vq, vq, vq, vq, vq, vq, vq, vq, vq, vq, vq, vq, vq, vq, vq, vq, vq, vq, vq, vq, vq, vq, vq, vq, vq, vq, vq, vq, vq, vq, vq, vq, vq, vq, vq, vq, vq, vq, vq, vq, vq, vq, vq, vq, vq, vq, vq, vq, vq, vq, vq, vq, vq, vq, vq, vq, vq] 31)]) (ob := [((decide (a1 < (1 : Int))), false), ((decide (a0 ≤ (64 : Int))), true), ((decide (a0 ≥ (1 : Int))), true)]) rfl rfl (show Zp (Zei 1).2 = [] from rfl) (by kernel_rfl) (oN <| oY <| oY Zf) rfl (by decide) (by rfl) ⟨rr, ⟨rr, ⟨rr, ⟨rr, ⟨rr, ⟨rr, ⟨rr, ⟨rr, trivial⟩⟩⟩⟩⟩⟩⟩⟩ ⟨⟨rfl, ⟨[], by rfl⟩, by rfl⟩, trivial⟩
  ·
   exact Mach.en_fin (M := ZaW a0 a1 N) (cd := 1000000) (cm := 0) (r := (.r0 (false) : ZP)) (fu := 4000) (orc := (Zn [(0, true), (1, false)] [] [] [] [])) (live := []) (u := vf) (bl := []) (ob := [((decide (a0 ≤ (64 : Int))), false), ((decide (a0 ≥ (1 : Int))), true)]) (by kernel_rfl) (oN <| oY Zf) rfl (by decide) (by rfl) rr trivial
 ·
  exact Mach.en_fin (M := ZaW a0 a1 N) (cd := 1000000) (cm := 0) (r := (.r0 (false) : ZP)) (fu := 4000) (orc := (Zn [(0, false)] [] [] [] [])) (live := []) (u := vf) (bl := []) (ob := [((decide (a0 ≥ (1 : Int))), false)]) (by kernel_rfl) (oN Zf) rfl (by decide) (by rfl) rr trivial

theorem Zi8 (a0 a1 : Int) (N : Nat) (r : ZP) (h : ZdJ a0 a1 N = some r) : LSpec Tryz.prog 7 #[vn, vi a0, vi a1] [] (Zii a0 a1 r) (Zhg a0 a1 r) :=
 Mach.spec Zds (ZaW a0 a1 N) Tryz.func7 (by kernel_rfl) (by kernel_rfl) (fun x => by cases x <;> exact Zac _ rfl) (fun r => by cases r <;> exact Zac _ rfl) (fun x => by
  cases x with
  | h1m0 => exact fun _ => (show ¬ (1 ∈ Zp (Zei 1).2) from by decide +kernel)
  ) (fun x => (show (ZaW a0 a1 N).Ok Tryz.prog Zy x (Zcq a0 a1 N x) from by
  cases x with
  | h1m0 => exact Zij a0 a1 N
  )) (Zkw a0 a1 N) (n := N) h

noncomputable def Zhh (a0 a1 : Int) (w0 : Bool) (n : Nat) : Zc2 := .call [] (Value.bool w0) [] 0
def ZeS (A : Array Value) (a0 a1 : Int) (w0 : Bool) (n : Nat) : Prop := ZX Tryz.prog 7 A [] (Value.bool w0) [] n 0

theorem Zhi (A : Array Value) (a0 a1 : Int) (w0 : Bool) (N : Nat) (h : ZdJ a0 a1 N = some (.r0 w0)) (n : Nat) (hA : A = #[vn, vi a0, vi a1]) (hnd : ([] : List Nat).Nodup) (hlt : ∀ k ∈ ([] : List Nat), k < n) : ZeS A a0 a1 w0  n :=
 ZbZ hA (LSpec.callL (show LSpec Tryz.prog 7 #[vn, vi a0, vi a1] [] (Value.bool w0) [] from Zi8 a0 a1 N _ h) [] n [] rfl hnd hlt (show 0 ≤ 0 from by decide) (show ∀ j ∈ ([] : List Nat), j < 0 from by decide) (by rfl) trivial (by rfl) trivial trivial rfl rfl rfl rfl rfl)

noncomputable def ZdX (L0 : List Int) (n1 : Nat) (L2 : List Int) (n3 n4 : Nat) : Z0 → Value
 | .r0 w2 => Value.bool w2
noncomputable def ZdM (L0 : List Int) (n1 : Nat) (L2 : List Int) (n3 n4 : Nat) : Z0 → List (Option AObj)
 | .r0 w2 => [some (.cells (Zc eI L0) 3), some (.cells (Zc eI L2) 3)]

def Zg8 : Zu → Nat
 | .h1m0 v5 => 1
noncomputable def ZgQ (L0 : List Int) (n1 : Nat) (L2 : List Int) (n3 n4 : Nat) : Zu → List (Nat × Value)
 | .h1m0 v5 => [(0, vs 0 0 n1 n1), (1, vs 1 0 n3 n4), (5, vi (v5 : Int))]
noncomputable def ZgR (L0 : List Int) (n1 : Nat) (L2 : List Int) (n3 n4 : Nat) : Zu → List (Option AObj)
 | .h1m0 v5 => [some (.cells (Zc eI L0) 3), some (.cells (Zc eI L2) 3)]

noncomputable def ZaI : Nat → Code × List ZS
 | 1 => ZaY [1, 1, 0, 1, 3] (ZbC Tryz.f5) []
 | _ => (.skip, [])
def ZdN : Nat → Bool
 | 1 => true
 | _ => true
noncomputable def ZgS (i : Nat) : List ZS := match ZdN i with | true => .rnd i :: (ZaI i).2 | false => (ZaI i).2

noncomputable def ZI (L0 : List Int) (n1 : Nat) (L2 : List Int) (n3 n4 N : Nat) : Mach := ⟨Tryz.f5, [.cells (Zc eI L0) 3, .cells (Zc eI L2) 3], Zu, Z0, ZaD L0 n1 L2 n3 n4 N, Zg8, ZaI, ZdN, ZgQ L0 n1 L2 n3 n4, ZgR L0 n1 L2 n3 n4, ZdX L0 n1 L2 n3 n4, ZdM L0 n1 L2 n3 n4⟩

theorem ZeT (L0 : List Int) (n1 : Nat) (L2 : List Int) (n3 n4 v5 N : Nat) : (ZI L0 n1 L2 n3 n4 N).Ok Tryz.prog Zy (.h1m0 v5 : Zu) (ZaD L0 n1 L2 n3 n4 N (.h1m0 v5 : Zu)) := by
 show (ZI L0 n1 L2 n3 n4 N).Ok Tryz.prog Zy (.h1m0 v5 : Zu) (ZU L0 n1 L2 n3 n4 N v5)
 unfold ZU
 refine Mach.ok_ite (fun g0 => ?_) (fun g0 => ?_)
 ·
  refine Mach.ok_ite (fun g1 => ?_) (fun g1 => ?_)
  ·
   refine Mach.ok_ite (fun g2 => ?_) (fun g2 => ?_)
   ·
    refine Mach.ok_ite (fun g3 => ?_) (fun g3 => ?_)
    ·
     refine Mach.ok_ite (fun g4 => ?_) (fun g4 => ?_)
     ·
      exact Mach.ok_fin (M := ZI L0 n1 L2 n3 n4 N) (cd := 1000000) (cm := 0) (r := (.r0 (false) : Z0)) (fu := 4000) (orc := (Zn [(0, true), (1, true)] [] [(0, v5), (1, v5)] [(0, [.i (L0.getD v5 0)]), (1, [.i (L2.getD v5 0)])] [])) (live := [0, 1]) (u := vf) (bl := [some (.cells (Zc eI L0) 3), some (.cells (Zc eI L2) 3)]) (ob := [(((L0.getD v5 0) != (L2.getD v5 0)), true), (ZL (Zo 1 (List.drop (0 + (v5 * 1)) (Zc eI L2))) [.i (L2.getD v5 0)], true), (Nat.blt v5 n3, true), ((v5 : Int) == Int.ofNat v5, true), (ZL (Zo 1 (List.drop (0 + (v5 * 1)) (Zc eI L0))) [.i (L0.getD v5 0)], true), (Nat.blt v5 n1, true), ((v5 : Int) == Int.ofNat v5, true), ((decide ((v5 : Int) < (n1 : Int))), true)]) (fun gv => by kernel_rfl) (oD <| Za (Zw (E := eI) (L := L2) (i := v5) (q := 0) (by omega) (show (0 + (v5 * 1)) = v5 * 1 + 0 from by omega) (show 0 + 1 ≤ 1 from by decide) rfl rfl) <| oB <| oI <| Za (Zw (E := eI) (L := L0) (i := v5) (q := 0) (by omega) (show (0 + (v5 * 1)) = v5 * 1 + 0 from by omega) (show 0 + 1 ≤ 1 from by decide) rfl rfl) <| oB <| oI <| oY Zf) rfl (by decide) (by rfl) rr ⟨(Zj (E := eI) (α := Int) _ L0 _), ⟨(Zj (E := eI) (α := Int) _ L2 _), trivial⟩⟩
     ·
      refine Mach.ok_ite (fun g5 => ?_) (fun g5 => ?_)
      ·
       exact Mach.ok_next (M := ZI L0 n1 L2 n3 n4 N) (cd := 1000000) (cm := 0) (y := (.h1m0 ((v5 + 1)) : Zu)) (fu := 4000) (orc := (Zn [(0, true), (1, false)] [(0, (((v5 + 1) : Nat) : Int))] [(0, v5), (1, v5)] [(0, [.i (L0.getD v5 0)]), (1, [.i (L2.getD v5 0)])] [])) (live := [0, 1]) (tv := fun _ => [some (vs 0 0 n1 n1), some (vs 1 0 n3 n4), some (vi (((v5 + 1) : Nat) : Int))]) (bl := [some (.cells (Zc eI L0) 3), some (.cells (Zc eI L2) 3)]) (ob := [((IntKind.i64.wrap ((v5 : Int) + (1 : Int))) == (((v5 + 1) : Nat) : Int), true), (((L0.getD v5 0) != (L2.getD v5 0)), false), (ZL (Zo 1 (List.drop (0 + (v5 * 1)) (Zc eI L2))) [.i (L2.getD v5 0)], true), (Nat.blt v5 n3, true), ((v5 : Int) == Int.ofNat v5, true), (ZL (Zo 1 (List.drop (0 + (v5 * 1)) (Zc eI L0))) [.i (L0.getD v5 0)], true), (Nat.blt v5 n1, true), ((v5 : Int) == Int.ofNat v5, true), ((decide ((v5 : Int) < (n1 : Int))), true)]) rfl (show 1 ∈ Zp (ZgS 1) from by decide +kernel) (fun gv => by kernel_rfl) (Za (beq_iff_eq.2 ((wrap_i64 ltA).trans (by first | rfl | omega))) <| oE <| Za (Zw (E := eI) (L := L2) (i := v5) (q := 0) (by omega) (show (0 + (v5 * 1)) = v5 * 1 + 0 from by omega) (show 0 + 1 ≤ 1 from by decide) rfl rfl) <| oB <| oI <| Za (Zw (E := eI) (L := L0) (i := v5) (q := 0) (by omega) (show (0 + (v5 * 1)) = v5 * 1 + 0 from by omega) (show 0 + 1 ≤ 1 from by decide) rfl rfl) <| oB <| oI <| oY Zf) rfl (by decide) (by rfl) (fun _ => ⟨rr, ⟨rr, ⟨rr, trivial⟩⟩⟩) ⟨(Zj (E := eI) (α := Int) _ L0 _), ⟨(Zj (E := eI) (α := Int) _ L2 _), trivial⟩⟩
      ·
       exact Mach.ok_none
    ·
     exact Mach.ok_none
   ·
    exact Mach.ok_none
  ·
   exact Mach.ok_none
 ·
  exact Mach.ok_fin (M := ZI L0 n1 L2 n3 n4 N) (cd := 1000000) (cm := 0) (r := (.r0 (true) : Z0)) (fu := 4000) (orc := (Zn [(0, false)] [] [] [] [])) (live := [0, 1]) (u := vT) (bl := [some (.cells (Zc eI L0) 3), some (.cells (Zc eI L2) 3)]) (ob := [((decide ((v5 : Int) < (n1 : Int))), false)]) (fun gv => by kernel_rfl) (oN Zf) rfl (by decide) (by rfl) rr ⟨(Zj (E := eI) (α := Int) _ L0 _), ⟨(Zj (E := eI) (α := Int) _ L2 _), trivial⟩⟩

theorem ZfX (L0 : List Int) (n1 : Nat) (L2 : List Int) (n3 n4 N : Nat) : (ZI L0 n1 L2 n3 n4 N).Enter Tryz.prog Zy #[vs 0 0 n1 n1, vs 1 0 n3 n4] (ZbF L0 n1 L2 n3 n4 N) := by
 unfold ZbF
 refine Mach.en_ite (fun g0 => ?_) (fun g0 => ?_)
 ·
  exact Mach.en_fin (M := ZI L0 n1 L2 n3 n4 N) (cd := 1000000) (cm := 0) (r := (.r0 (false) : Z0)) (fu := 4000) (orc := (Zn [(0, true)] [] [] [] [])) (live := [0, 1]) (u := vf) (bl := [some (.cells (Zc eI L0) 3), some (.cells (Zc eI L2) 3)]) (ob := [(((n1 : Int) != (n3 : Int)), true)]) (by kernel_rfl) (oD Zf) rfl (by decide) (by rfl) rr ⟨(Zj (E := eI) (α := Int) _ L0 _), ⟨(Zj (E := eI) (α := Int) _ L2 _), trivial⟩⟩
 ·
  exact Mach.en_head (bK := ZaI 1) (M := ZI L0 n1 L2 n3 n4 N) (cd := 1000000) (cm := 0) (y := (.h1m0 (0) : Zu)) (fu := 4000) (orc := (Zn [(0, false)] [] [] [] [])) (live := [0, 1]) (tv := [some (vs 0 0 n1 n1), some (vs 1 0 n3 n4), some (vq)]) (bl := [some (.cells (Zc eI L0) 3), some (.cells (Zc eI L2) 3)]) (ob := [(((n1 : Int) != (n3 : Int)), false)]) rfl rfl (show Zp (ZaI 1).2 = [] from rfl) (by kernel_rfl) (oE Zf) rfl (by decide) (by rfl) ⟨rr, ⟨rr, ⟨⟨Eq.trans (show (vi ((0 : Nat) : Int) : Value) = vq from (congrArg (Value.int .i64) (by first | rfl | omega))) (by rfl), by rfl⟩, trivial⟩⟩⟩ ⟨(Zj (E := eI) (α := Int) _ L0 _), ⟨(Zj (E := eI) (α := Int) _ L2 _), trivial⟩⟩

theorem Zft (L0 : List Int) (n1 : Nat) (L2 : List Int) (n3 n4 N : Nat) (r : Z0) (h : Zby L0 n1 L2 n3 n4 N = some r) : LSpec Tryz.prog 5 #[vs 0 0 n1 n1, vs 1 0 n3 n4] [.cells (Zc eI L0) 3, .cells (Zc eI L2) 3] (ZdX L0 n1 L2 n3 n4 r) (ZdM L0 n1 L2 n3 n4 r) :=
 Mach.spec Zds (ZI L0 n1 L2 n3 n4 N) Tryz.func5 (by kernel_rfl) (by kernel_rfl) (fun x => by cases x <;> exact Zac _ rfl) (fun r => by cases r <;> exact Zac _ rfl) (fun x => by
  cases x with
  | h1m0 _ => exact fun _ => (show ¬ (1 ∈ Zp (ZaI 1).2) from by decide +kernel)
  ) (fun x => (show (ZI L0 n1 L2 n3 n4 N).Ok Tryz.prog Zy x (ZaD L0 n1 L2 n3 n4 N x) from by
  cases x with
  | h1m0 v5 => exact ZeT L0 n1 L2 n3 n4 v5 N
  )) (ZfX L0 n1 L2 n3 n4 N) (n := N) h

noncomputable def Za6 (L0 : List Int) (n1 : Nat) (L2 : List Int) (n3 n4 : Nat) (w2 : Bool) (k0 k1 n : Nat) : Zc2 := .call [(k0, .cells (Zc eI L0) 3), (k1, .cells (Zc eI L2) 3)] (Value.bool w2) [] 0
def Zao (A : Array Value) (L0 : List Int) (n1 : Nat) (L2 : List Int) (n3 n4 : Nat) (w2 : Bool) (k0 k1 n : Nat) : Prop := ZX Tryz.prog 5 A [(k0, .cells (Zc eI L0) 3), (k1, .cells (Zc eI L2) 3)] (Value.bool w2) [] n 0

theorem Za7 (A : Array Value) (L0 : List Int) (n1 : Nat) (L2 : List Int) (n3 n4 : Nat) (w2 : Bool) (N : Nat) (h : Zby L0 n1 L2 n3 n4 N = some (.r0 w2)) (k0 k1 n : Nat) (hA : A = #[vs k0 0 n1 n1, vs k1 0 n3 n4]) (hnd : ([k0, k1] : List Nat).Nodup) (hlt : ∀ k ∈ ([k0, k1] : List Nat), k < n) : Zao A L0 n1 L2 n3 n4 w2 k0 k1 n :=
 ZbZ hA (LSpec.callL (show LSpec Tryz.prog 5 #[vs 0 0 n1 n1, vs 1 0 n3 n4] [.cells (Zc eI L0) 3, .cells (Zc eI L2) 3] (Value.bool w2) [some (.cells (Zc eI L0) 3), some (.cells (Zc eI L2) 3)] from Zft L0 n1 L2 n3 n4 N _ h) [k0, k1] n [] rfl hnd hlt (show 2 ≤ 2 from by decide) (show ∀ j ∈ ([] : List Nat), j < 2 from by decide) (by rfl) ⟨(ZbE _ _ _), ⟨(ZbE _ _ _), trivial⟩⟩ (by rfl) ⟨(ZbE _ _ _), ⟨(ZbE _ _ _), trivial⟩⟩ ⟨.inr rfl, ⟨.inr rfl, trivial⟩⟩ rfl rfl rfl (Zfo (Zfp rfl (Ze3 _ _ _)) (Zfo (Zfp rfl (Ze3 _ _ _)) rfl)) rfl)

noncomputable def Zik (L0 : List Int) (n1 : Nat) (a2 a3 : Int) : ZE → Value
 | .r0 w1 => Value.bool w1
noncomputable def Zhj (L0 : List Int) (n1 : Nat) (a2 a3 : Int) : ZE → List (Option AObj)
 | .r0 w1 => [some (.cells (Zc eI L0) 3)]

def ZkY : Zm → Nat
 | .h1m0 v4 v5 v8 => 1
 | .h2m0 v4 v5 v6 v9 => 2
noncomputable def Zmn (L0 : List Int) (n1 : Nat) (a2 a3 : Int) : Zm → List (Nat × Value)
 | .h1m0 v4 v5 v8 => [(0, vs 0 0 n1 n1), (1, vi a2), (2, vi a3), (7, vp 1 0), (8, vi (v5 : Int)), (19, vs 0 0 n1 n1), (20, vi (n1 : Int)), (21, vi (v8 : Int))]
 | .h2m0 v4 v5 v6 v9 => [(0, vs 0 0 n1 n1), (1, vi a2), (2, vi a3), (7, vp 1 0), (8, vi (v5 : Int)), (9, vi (v6 : Int)), (19, vs 0 0 n1 n1), (20, vi (n1 : Int)), (21, vi (v9 : Int))]
noncomputable def Zmo (L0 : List Int) (n1 : Nat) (a2 a3 : Int) : Zm → List (Option AObj)
 | .h1m0 v4 v5 v8 => [some (.cells (Zc eI L0) 3), some (.cells (Zc eI v4) 31)]
 | .h2m0 v4 v5 v6 v9 => [some (.cells (Zc eI L0) 3), some (.cells (Zc eI v4) 31)]

noncomputable def Zab : Nat → Code × List ZS
 | 1 => ZaY [1, 2, 1, 1, 1, 1, 0, 1, 3] (ZbC Tryz.f7) []
 | 2 => ZfG [1, 2, 1, 1, 1, 1, 0, 1, 3, 7, 1, 1, 0, 3, 1, 1] (ZbC Tryz.f7) []
 | _ => (.skip, [])
def Zhk : Nat → Bool
 | 1 => true
 | 2 => false
 | _ => true
noncomputable def Zbl (i : Nat) : List ZS := match Zhk i with | true => .rnd i :: (Zab i).2 | false => (Zab i).2

noncomputable def Z6 (L0 : List Int) (n1 : Nat) (a2 a3 : Int) (N : Nat) : Mach := ⟨Tryz.f7, [.cells (Zc eI L0) 3], Zm, ZE, ZQ L0 n1 a2 a3 N, ZkY, Zab, Zhk, Zmn L0 n1 a2 a3, Zmo L0 n1 a2 a3, Zik L0 n1 a2 a3, Zhj L0 n1 a2 a3⟩

theorem Zil (L0 : List Int) (n1 : Nat) (a2 a3 : Int) (v4 : List Int) (v5 v8 N : Nat) : (Z6 L0 n1 a2 a3 N).Ok Tryz.prog Zy (.h1m0 v4 v5 v8 : Zm) (ZQ L0 n1 a2 a3 N (.h1m0 v4 v5 v8 : Zm)) := by
 show (Z6 L0 n1 a2 a3 N).Ok Tryz.prog Zy (.h1m0 v4 v5 v8 : Zm) (Zae L0 n1 a2 a3 N v4 v5 v8)
 unfold Zae
 refine Mach.ok_ite (fun g0 => ?_) (fun g0 => ?_)
 ·
  refine Mach.ok_ite (fun g1 => ?_) (fun g1 => ?_)
  ·
   refine Mach.ok_ite (fun g2 => ?_) (fun g2 => ?_)
   ·
    refine Mach.ok_ite (fun g3 => ?_) (fun g3 => ?_)
    ·
     refine Mach.ok_ite (fun g4 => ?_) (fun g4 => ?_)
     ·
      refine Mach.ok_ite (fun g5 => ?_) (fun g5 => ?_)
      ·
       refine Mach.ok_ite (fun g6 => ?_) (fun g6 => ?_)
       ·
        refine Mach.ok_ite (fun g7 => ?_) (fun g7 => ?_)
        ·
         refine Mach.ok_ite (fun g8 => ?_) (fun g8 => ?_)
         ·
          refine Mach.ok_ite (fun g9 => ?_) (fun g9 => ?_)
          ·
           exact Mach.ok_cut (bK := Zab 2) (M := Z6 L0 n1 a2 a3 N) (cd := 6) (cm := 1) (y := (.h2m0 ((v4.set ((L0.getD v8 0)).toNat (IntKind.i64.wrap ((v4.getD ((L0.getD v8 0)).toNat 0) + (1 : Int))))) ((v5 + 1)) (v8) (v8) : Zm)) (fu := 4000) (orc := (Zn [(0, true), (1, true), (2, true), (3, true)] [(1, (((v5 + 1) : Nat) : Int))] [(0, v8), (1, ((L0.getD v8 0)).toNat), (2, ((L0.getD v8 0)).toNat), (3, ((L0.getD v8 0)).toNat)] [(0, [.i (L0.getD v8 0)]), (1, [.i (v4.getD ((L0.getD v8 0)).toNat 0)]), (2, [.i (IntKind.i64.wrap ((v4.getD ((L0.getD v8 0)).toNat 0) + (1 : Int)))])] [(0, .st (Zc eI (v4.set ((L0.getD v8 0)).toNat (IntKind.i64.wrap ((v4.getD ((L0.getD v8 0)).toNat 0) + (1 : Int))))))])) (live := [0, 1]) (tv := fun _ => [some (vs 0 0 n1 n1), some (vi a2), some (vi a3), some (vp 1 0), some (vi (((v5 + 1) : Nat) : Int)), some (vi (v8 : Int)), some (vs 0 0 n1 n1), some (vi (n1 : Int)), some (vi (v8 : Int))]) (bl := [some (.cells (Zc eI L0) 3), some (.cells (Zc eI (v4.set ((L0.getD v8 0)).toNat (IntKind.i64.wrap ((v4.getD ((L0.getD v8 0)).toNat 0) + (1 : Int))))) 31)]) (ob := [((IntKind.i64.wrap ((v5 : Int) + (1 : Int))) == (((v5 + 1) : Nat) : Int), true), (((IntKind.i64.wrap ((v4.getD ((L0.getD v8 0)).toNat 0) + (1 : Int))) == (1 : Int)), true), (ZL (Zo 1 (List.drop (0 + (((L0.getD v8 0)).toNat * 1)) (Zc eI (v4.set ((L0.getD v8 0)).toNat (IntKind.i64.wrap ((v4.getD ((L0.getD v8 0)).toNat 0) + (1 : Int))))))) [.i (IntKind.i64.wrap ((v4.getD ((L0.getD v8 0)).toNat 0) + (1 : Int)))], true), (Nat.blt ((L0.getD v8 0)).toNat 64, true), ((L0.getD v8 0) == Int.ofNat ((L0.getD v8 0)).toNat, true), (dP ((0 + (((L0.getD v8 0)).toNat * 1)) + ([vi (IntKind.i64.wrap ((v4.getD ((L0.getD v8 0)).toNat 0) + (1 : Int)))] : List Value).length ≤ ((Zc eI v4) : List Value).length ∧ Zbh (Zc eI v4) (0 + (((L0.getD v8 0)).toNat * 1)) [vi (IntKind.i64.wrap ((v4.getD ((L0.getD v8 0)).toNat 0) + (1 : Int)))] = (Zc eI (v4.set ((L0.getD v8 0)).toNat (IntKind.i64.wrap ((v4.getD ((L0.getD v8 0)).toNat 0) + (1 : Int)))))), true), (Nat.blt ((L0.getD v8 0)).toNat 64, true), ((L0.getD v8 0) == Int.ofNat ((L0.getD v8 0)).toNat, true), (ZL (Zo 1 (List.drop (0 + (((L0.getD v8 0)).toNat * 1)) (Zc eI v4))) [.i (v4.getD ((L0.getD v8 0)).toNat 0)], true), (Nat.blt ((L0.getD v8 0)).toNat 64, true), ((L0.getD v8 0) == Int.ofNat ((L0.getD v8 0)).toNat, true), ((decide ((L0.getD v8 0) < a2)), true), ((decide ((L0.getD v8 0) ≥ (0 : Int))), true), (ZL (Zo 1 (List.drop (0 + (v8 * 1)) (Zc eI L0))) [.i (L0.getD v8 0)], true), (Nat.blt v8 n1, true), ((v8 : Int) == Int.ofNat v8, true), ((decide ((v8 : Int) < (n1 : Int))), true)]) rfl rfl (show ∀ j ∈ Zp (Zab 2).2, j ∈ Zp (Zbl 1) from by decide +kernel) (fun gv => by kernel_rfl) (Za (beq_iff_eq.2 ((wrap_i64 ltA).trans (by first | rfl | omega))) <| oT <| Za (Zw (E := eI) (L := (v4.set ((L0.getD v8 0)).toNat (IntKind.i64.wrap ((v4.getD ((L0.getD v8 0)).toNat 0) + (1 : Int))))) (i := ((L0.getD v8 0)).toNat) (q := 0) ltA (show (0 + (((L0.getD v8 0)).toNat * 1)) = ((L0.getD v8 0)).toNat * 1 + 0 from by omega) (show 0 + 1 ≤ 1 from by decide) rfl (by rw [Zch ltA]; first | done | rfl)) <| oB <| oI <| Za (Zh (Zbx (E := eI) (L := v4) (i := ((L0.getD v8 0)).toNat) (q := 0) (l := [vi (IntKind.i64.wrap ((v4.getD ((L0.getD v8 0)).toNat 0) + (1 : Int)))]) (IntKind.i64.wrap ((v4.getD ((L0.getD v8 0)).toNat 0) + (1 : Int))) (by omega) (show (0 + (((L0.getD v8 0)).toNat * 1)) = ((L0.getD v8 0)).toNat * 1 + 0 from by omega) (show 0 + 1 ≤ 1 from by decide) rfl)) <| oB <| oI <| Za (Zw (E := eI) (L := v4) (i := ((L0.getD v8 0)).toNat) (q := 0) (by omega) (show (0 + (((L0.getD v8 0)).toNat * 1)) = ((L0.getD v8 0)).toNat * 1 + 0 from by omega) (show 0 + 1 ≤ 1 from by decide) rfl rfl) <| oB <| oI <| oY <| oY <| Za (Zw (E := eI) (L := L0) (i := v8) (q := 0) (by omega) (show (0 + (v8 * 1)) = v8 * 1 + 0 from by omega) (show 0 + 1 ≤ 1 from by decide) rfl rfl) <| oB <| oI <| oY Zf) rfl (by decide) (by rfl) (fun _ => ⟨rr, ⟨rr, ⟨rr, ⟨rr, ⟨rr, ⟨rr, ⟨rr, ⟨rr, ⟨rr, trivial⟩⟩⟩⟩⟩⟩⟩⟩⟩) ⟨(Zj (E := eI) (α := Int) _ L0 _), ⟨(Zj (E := eI) (α := Int) _ (v4.set ((L0.getD v8 0)).toNat (IntKind.i64.wrap ((v4.getD ((L0.getD v8 0)).toNat 0) + (1 : Int)))) _), trivial⟩⟩
          ·
           exact Mach.ok_none
         ·
          exact Mach.ok_cut (bK := Zab 2) (M := Z6 L0 n1 a2 a3 N) (cd := 6) (cm := 1) (y := (.h2m0 ((v4.set ((L0.getD v8 0)).toNat (IntKind.i64.wrap ((v4.getD ((L0.getD v8 0)).toNat 0) + (1 : Int))))) (v5) (v8) (v8) : Zm)) (fu := 4000) (orc := (Zn [(0, true), (1, true), (2, true), (3, false)] [] [(0, v8), (1, ((L0.getD v8 0)).toNat), (2, ((L0.getD v8 0)).toNat), (3, ((L0.getD v8 0)).toNat)] [(0, [.i (L0.getD v8 0)]), (1, [.i (v4.getD ((L0.getD v8 0)).toNat 0)]), (2, [.i (IntKind.i64.wrap ((v4.getD ((L0.getD v8 0)).toNat 0) + (1 : Int)))])] [(0, .st (Zc eI (v4.set ((L0.getD v8 0)).toNat (IntKind.i64.wrap ((v4.getD ((L0.getD v8 0)).toNat 0) + (1 : Int))))))])) (live := [0, 1]) (tv := fun _ => [some (vs 0 0 n1 n1), some (vi a2), some (vi a3), some (vp 1 0), some (vi (v5 : Int)), some (vi (v8 : Int)), some (vs 0 0 n1 n1), some (vi (n1 : Int)), some (vi (v8 : Int))]) (bl := [some (.cells (Zc eI L0) 3), some (.cells (Zc eI (v4.set ((L0.getD v8 0)).toNat (IntKind.i64.wrap ((v4.getD ((L0.getD v8 0)).toNat 0) + (1 : Int))))) 31)]) (ob := [(((IntKind.i64.wrap ((v4.getD ((L0.getD v8 0)).toNat 0) + (1 : Int))) == (1 : Int)), false), (ZL (Zo 1 (List.drop (0 + (((L0.getD v8 0)).toNat * 1)) (Zc eI (v4.set ((L0.getD v8 0)).toNat (IntKind.i64.wrap ((v4.getD ((L0.getD v8 0)).toNat 0) + (1 : Int))))))) [.i (IntKind.i64.wrap ((v4.getD ((L0.getD v8 0)).toNat 0) + (1 : Int)))], true), (Nat.blt ((L0.getD v8 0)).toNat 64, true), ((L0.getD v8 0) == Int.ofNat ((L0.getD v8 0)).toNat, true), (dP ((0 + (((L0.getD v8 0)).toNat * 1)) + ([vi (IntKind.i64.wrap ((v4.getD ((L0.getD v8 0)).toNat 0) + (1 : Int)))] : List Value).length ≤ ((Zc eI v4) : List Value).length ∧ Zbh (Zc eI v4) (0 + (((L0.getD v8 0)).toNat * 1)) [vi (IntKind.i64.wrap ((v4.getD ((L0.getD v8 0)).toNat 0) + (1 : Int)))] = (Zc eI (v4.set ((L0.getD v8 0)).toNat (IntKind.i64.wrap ((v4.getD ((L0.getD v8 0)).toNat 0) + (1 : Int)))))), true), (Nat.blt ((L0.getD v8 0)).toNat 64, true), ((L0.getD v8 0) == Int.ofNat ((L0.getD v8 0)).toNat, true), (ZL (Zo 1 (List.drop (0 + (((L0.getD v8 0)).toNat * 1)) (Zc eI v4))) [.i (v4.getD ((L0.getD v8 0)).toNat 0)], true), (Nat.blt ((L0.getD v8 0)).toNat 64, true), ((L0.getD v8 0) == Int.ofNat ((L0.getD v8 0)).toNat, true), ((decide ((L0.getD v8 0) < a2)), true), ((decide ((L0.getD v8 0) ≥ (0 : Int))), true), (ZL (Zo 1 (List.drop (0 + (v8 * 1)) (Zc eI L0))) [.i (L0.getD v8 0)], true), (Nat.blt v8 n1, true), ((v8 : Int) == Int.ofNat v8, true), ((decide ((v8 : Int) < (n1 : Int))), true)]) rfl rfl (show ∀ j ∈ Zp (Zab 2).2, j ∈ Zp (Zbl 1) from by decide +kernel) (fun gv => by kernel_rfl) (oF <| Za (Zw (E := eI) (L := (v4.set ((L0.getD v8 0)).toNat (IntKind.i64.wrap ((v4.getD ((L0.getD v8 0)).toNat 0) + (1 : Int))))) (i := ((L0.getD v8 0)).toNat) (q := 0) ltA (show (0 + (((L0.getD v8 0)).toNat * 1)) = ((L0.getD v8 0)).toNat * 1 + 0 from by omega) (show 0 + 1 ≤ 1 from by decide) rfl (by rw [Zch ltA]; first | done | rfl)) <| oB <| oI <| Za (Zh (Zbx (E := eI) (L := v4) (i := ((L0.getD v8 0)).toNat) (q := 0) (l := [vi (IntKind.i64.wrap ((v4.getD ((L0.getD v8 0)).toNat 0) + (1 : Int)))]) (IntKind.i64.wrap ((v4.getD ((L0.getD v8 0)).toNat 0) + (1 : Int))) (by omega) (show (0 + (((L0.getD v8 0)).toNat * 1)) = ((L0.getD v8 0)).toNat * 1 + 0 from by omega) (show 0 + 1 ≤ 1 from by decide) rfl)) <| oB <| oI <| Za (Zw (E := eI) (L := v4) (i := ((L0.getD v8 0)).toNat) (q := 0) (by omega) (show (0 + (((L0.getD v8 0)).toNat * 1)) = ((L0.getD v8 0)).toNat * 1 + 0 from by omega) (show 0 + 1 ≤ 1 from by decide) rfl rfl) <| oB <| oI <| oY <| oY <| Za (Zw (E := eI) (L := L0) (i := v8) (q := 0) (by omega) (show (0 + (v8 * 1)) = v8 * 1 + 0 from by omega) (show 0 + 1 ≤ 1 from by decide) rfl rfl) <| oB <| oI <| oY Zf) rfl (by decide) (by rfl) (fun _ => ⟨rr, ⟨rr, ⟨rr, ⟨rr, ⟨rr, ⟨rr, ⟨rr, ⟨rr, ⟨rr, trivial⟩⟩⟩⟩⟩⟩⟩⟩⟩) ⟨(Zj (E := eI) (α := Int) _ L0 _), ⟨(Zj (E := eI) (α := Int) _ (v4.set ((L0.getD v8 0)).toNat (IntKind.i64.wrap ((v4.getD ((L0.getD v8 0)).toNat 0) + (1 : Int)))) _), trivial⟩⟩
        ·
         exact Mach.ok_none
       ·
        exact Mach.ok_cut (bK := Zab 2) (M := Z6 L0 n1 a2 a3 N) (cd := 6) (cm := 1) (y := (.h2m0 (v4) (v5) (v8) (v8) : Zm)) (fu := 4000) (orc := (Zn [(0, true), (1, true), (2, false)] [] [(0, v8)] [(0, [.i (L0.getD v8 0)])] [])) (live := [0, 1]) (tv := fun _ => [some (vs 0 0 n1 n1), some (vi a2), some (vi a3), some (vp 1 0), some (vi (v5 : Int)), some (vi (v8 : Int)), some (vs 0 0 n1 n1), some (vi (n1 : Int)), some (vi (v8 : Int))]) (bl := [some (.cells (Zc eI L0) 3), some (.cells (Zc eI v4) 31)]) (ob := [((decide ((L0.getD v8 0) < a2)), false), ((decide ((L0.getD v8 0) ≥ (0 : Int))), true), (ZL (Zo 1 (List.drop (0 + (v8 * 1)) (Zc eI L0))) [.i (L0.getD v8 0)], true), (Nat.blt v8 n1, true), ((v8 : Int) == Int.ofNat v8, true), ((decide ((v8 : Int) < (n1 : Int))), true)]) rfl rfl (show ∀ j ∈ Zp (Zab 2).2, j ∈ Zp (Zbl 1) from by decide +kernel) (fun gv => by kernel_rfl) (oN <| oY <| Za (Zw (E := eI) (L := L0) (i := v8) (q := 0) (by omega) (show (0 + (v8 * 1)) = v8 * 1 + 0 from by omega) (show 0 + 1 ≤ 1 from by decide) rfl rfl) <| oB <| oI <| oY Zf) rfl (by decide) (by rfl) (fun _ => ⟨rr, ⟨rr, ⟨rr, ⟨rr, ⟨rr, ⟨rr, ⟨rr, ⟨rr, ⟨rr, trivial⟩⟩⟩⟩⟩⟩⟩⟩⟩) ⟨(Zj (E := eI) (α := Int) _ L0 _), ⟨(Zj (E := eI) (α := Int) _ v4 _), trivial⟩⟩
      ·
       exact Mach.ok_cut (bK := Zab 2) (M := Z6 L0 n1 a2 a3 N) (cd := 6) (cm := 1) (y := (.h2m0 (v4) (v5) (v8) (v8) : Zm)) (fu := 4000) (orc := (Zn [(0, true), (1, false)] [] [(0, v8)] [(0, [.i (L0.getD v8 0)])] [])) (live := [0, 1]) (tv := fun _ => [some (vs 0 0 n1 n1), some (vi a2), some (vi a3), some (vp 1 0), some (vi (v5 : Int)), some (vi (v8 : Int)), some (vs 0 0 n1 n1), some (vi (n1 : Int)), some (vi (v8 : Int))]) (bl := [some (.cells (Zc eI L0) 3), some (.cells (Zc eI v4) 31)]) (ob := [((decide ((L0.getD v8 0) ≥ (0 : Int))), false), (ZL (Zo 1 (List.drop (0 + (v8 * 1)) (Zc eI L0))) [.i (L0.getD v8 0)], true), (Nat.blt v8 n1, true), ((v8 : Int) == Int.ofNat v8, true), ((decide ((v8 : Int) < (n1 : Int))), true)]) rfl rfl (show ∀ j ∈ Zp (Zab 2).2, j ∈ Zp (Zbl 1) from by decide +kernel) (fun gv => by kernel_rfl) (oN <| Za (Zw (E := eI) (L := L0) (i := v8) (q := 0) (by omega) (show (0 + (v8 * 1)) = v8 * 1 + 0 from by omega) (show 0 + 1 ≤ 1 from by decide) rfl rfl) <| oB <| oI <| oY Zf) rfl (by decide) (by rfl) (fun _ => ⟨rr, ⟨rr, ⟨rr, ⟨rr, ⟨rr, ⟨rr, ⟨rr, ⟨rr, ⟨rr, trivial⟩⟩⟩⟩⟩⟩⟩⟩⟩) ⟨(Zj (E := eI) (α := Int) _ L0 _), ⟨(Zj (E := eI) (α := Int) _ v4 _), trivial⟩⟩
     ·
      exact Mach.ok_none
    ·
     exact Mach.ok_fin (M := Z6 L0 n1 a2 a3 N) (cd := 1000000) (cm := 0) (r := (.r0 (true) : ZE)) (fu := 4000) (orc := (Zn [(0, false)] [] [] [] [])) (live := [0]) (u := vT) (bl := [some (.cells (Zc eI L0) 3)]) (ob := [((decide ((v8 : Int) < (n1 : Int))), false)]) (fun gv => by kernel_rfl) (oN Zf) rfl (by decide) (by rfl) rr ⟨(Zj (E := eI) (α := Int) _ L0 _), trivial⟩
   ·
    exact Mach.ok_none
  ·
   exact Mach.ok_none
 ·
  exact Mach.ok_none

theorem Zim (L0 : List Int) (n1 : Nat) (a2 a3 : Int) (v4 : List Int) (v5 v6 v9 N : Nat) : (Z6 L0 n1 a2 a3 N).Ok Tryz.prog Zy (.h2m0 v4 v5 v6 v9 : Zm) (ZQ L0 n1 a2 a3 N (.h2m0 v4 v5 v6 v9 : Zm)) := by
 show (Z6 L0 n1 a2 a3 N).Ok Tryz.prog Zy (.h2m0 v4 v5 v6 v9 : Zm) (Zaf L0 n1 a2 a3 N v4 v5 v6 v9)
 unfold Zaf
 refine Mach.ok_ite (fun g0 => ?_) (fun g0 => ?_)
 ·
  refine Mach.ok_ite (fun g1 => ?_) (fun g1 => ?_)
  ·
   refine Mach.ok_ite (fun g2 => ?_) (fun g2 => ?_)
   ·
    refine Mach.ok_ite (fun g3 => ?_) (fun g3 => ?_)
    ·
     refine Mach.ok_ite (fun g4 => ?_) (fun g4 => ?_)
     ·
      refine Mach.ok_ite (fun g5 => ?_) (fun g5 => ?_)
      ·
       exact Mach.ok_next (M := Z6 L0 n1 a2 a3 N) (cd := 1000000) (cm := 0) (y := (.h1m0 (v4) (v5) ((v9 + 1)) : Zm)) (fu := 4000) (orc := (Zn [(0, true)] [(0, (((v6 + 1) : Nat) : Int)), (1, (((v9 + 1) : Nat) : Int))] [] [] [])) (live := [0, 1]) (tv := fun _ => [some (vs 0 0 n1 n1), some (vi a2), some (vi a3), some (vp 1 0), some (vi (v5 : Int)), some (vs 0 0 n1 n1), some (vi (n1 : Int)), some (vi (((v9 + 1) : Nat) : Int))]) (bl := [some (.cells (Zc eI L0) 3), some (.cells (Zc eI v4) 31)]) (ob := [((IntKind.i64.wrap ((v9 : Int) + (1 : Int))) == (((v9 + 1) : Nat) : Int), true), ((decide ((((v6 + 1) : Nat) : Int) < a3)), true), ((IntKind.i64.wrap ((v6 : Int) + (1 : Int))) == (((v6 + 1) : Nat) : Int), true)]) rfl (show 1 ∈ Zp (Zbl 2) from by decide +kernel) (fun gv => by kernel_rfl) (Za (beq_iff_eq.2 ((wrap_i64 ltA).trans (by first | rfl | omega))) <| oY <| Za (beq_iff_eq.2 ((wrap_i64 ltA).trans (by first | rfl | omega))) Zf) rfl (by decide) (by rfl) (fun _ => ⟨rr, ⟨rr, ⟨rr, ⟨rr, ⟨rr, ⟨rr, ⟨rr, ⟨rr, trivial⟩⟩⟩⟩⟩⟩⟩⟩) ⟨(Zj (E := eI) (α := Int) _ L0 _), ⟨(Zj (E := eI) (α := Int) _ v4 _), trivial⟩⟩
      ·
       exact Mach.ok_none
     ·
      refine Mach.ok_ite (fun g5 => ?_) (fun g5 => ?_)
      ·
       exact Mach.ok_fin (M := Z6 L0 n1 a2 a3 N) (cd := 1000000) (cm := 0) (r := (.r0 (false) : ZE)) (fu := 4000) (orc := (Zn [(0, false), (1, true)] [(0, (((v6 + 1) : Nat) : Int))] [] [] [])) (live := [0]) (u := vf) (bl := [some (.cells (Zc eI L0) 3)]) (ob := [((decide ((v5 : Int) < a2)), true), ((decide ((((v6 + 1) : Nat) : Int) < a3)), false), ((IntKind.i64.wrap ((v6 : Int) + (1 : Int))) == (((v6 + 1) : Nat) : Int), true)]) (fun gv => by kernel_rfl) (oY <| oN <| Za (beq_iff_eq.2 ((wrap_i64 ltA).trans (by first | rfl | omega))) Zf) rfl (by decide) (by rfl) rr ⟨(Zj (E := eI) (α := Int) _ L0 _), trivial⟩
      ·
       refine Mach.ok_ite (fun g6 => ?_) (fun g6 => ?_)
       ·
        refine Mach.ok_ite (fun g7 => ?_) (fun g7 => ?_)
        ·
         refine Mach.ok_ite (fun g8 => ?_) (fun g8 => ?_)
         ·
          refine Mach.ok_ite (fun g9 => ?_) (fun g9 => ?_)
          ·
           refine Mach.ok_ite (fun g10 => ?_) (fun g10 => ?_)
           ·
            refine Mach.ok_ite (fun g11 => ?_) (fun g11 => ?_)
            ·
             refine Mach.ok_ite (fun g12 => ?_) (fun g12 => ?_)
             ·
              refine Mach.ok_ite (fun g13 => ?_) (fun g13 => ?_)
              ·
               exact Mach.ok_next (M := Z6 L0 n1 a2 a3 N) (cd := 1000000) (cm := 0) (y := (.h1m0 ((v4.set ((L0.getD (((((v6 + 1) : Nat) : Int) - a3)).toNat 0)).toNat (IntKind.i64.wrap ((v4.getD ((L0.getD (((((v6 + 1) : Nat) : Int) - a3)).toNat 0)).toNat 0) - (1 : Int))))) ((v5 - 1)) ((v9 + 1)) : Zm)) (fu := 4000) (orc := (Zn [(0, false), (1, false), (2, true), (3, true), (4, true)] [(0, (((v6 + 1) : Nat) : Int)), (1, (((v6 + 1) : Nat) : Int)), (2, ((((v6 + 1) : Nat) : Int) - a3)), (4, (((v5 - 1) : Nat) : Int)), (5, (((v9 + 1) : Nat) : Int))] [(0, (((((v6 + 1) : Nat) : Int) - a3)).toNat), (1, ((L0.getD (((((v6 + 1) : Nat) : Int) - a3)).toNat 0)).toNat), (2, ((L0.getD (((((v6 + 1) : Nat) : Int) - a3)).toNat 0)).toNat), (3, ((L0.getD (((((v6 + 1) : Nat) : Int) - a3)).toNat 0)).toNat)] [(0, [.i (L0.getD (((((v6 + 1) : Nat) : Int) - a3)).toNat 0)]), (1, [.i (v4.getD ((L0.getD (((((v6 + 1) : Nat) : Int) - a3)).toNat 0)).toNat 0)]), (2, [.i (IntKind.i64.wrap ((v4.getD ((L0.getD (((((v6 + 1) : Nat) : Int) - a3)).toNat 0)).toNat 0) - (1 : Int)))])] [(0, .st (Zc eI (v4.set ((L0.getD (((((v6 + 1) : Nat) : Int) - a3)).toNat 0)).toNat (IntKind.i64.wrap ((v4.getD ((L0.getD (((((v6 + 1) : Nat) : Int) - a3)).toNat 0)).toNat 0) - (1 : Int))))))])) (live := [0, 1]) (tv := fun _ => [some (vs 0 0 n1 n1), some (vi a2), some (vi a3), some (vp 1 0), some (vi (((v5 - 1) : Nat) : Int)), some (vs 0 0 n1 n1), some (vi (n1 : Int)), some (vi (((v9 + 1) : Nat) : Int))]) (bl := [some (.cells (Zc eI L0) 3), some (.cells (Zc eI (v4.set ((L0.getD (((((v6 + 1) : Nat) : Int) - a3)).toNat 0)).toNat (IntKind.i64.wrap ((v4.getD ((L0.getD (((((v6 + 1) : Nat) : Int) - a3)).toNat 0)).toNat 0) - (1 : Int))))) 31)]) (ob := [((IntKind.i64.wrap ((v9 : Int) + (1 : Int))) == (((v9 + 1) : Nat) : Int), true), ((IntKind.i64.wrap ((v5 : Int) - (1 : Int))) == (((v5 - 1) : Nat) : Int), true), (((IntKind.i64.wrap ((v4.getD ((L0.getD (((((v6 + 1) : Nat) : Int) - a3)).toNat 0)).toNat 0) - (1 : Int))) == (0 : Int)), true), (ZL (Zo 1 (List.drop (0 + (((L0.getD (((((v6 + 1) : Nat) : Int) - a3)).toNat 0)).toNat * 1)) (Zc eI (v4.set ((L0.getD (((((v6 + 1) : Nat) : Int) - a3)).toNat 0)).toNat (IntKind.i64.wrap ((v4.getD ((L0.getD (((((v6 + 1) : Nat) : Int) - a3)).toNat 0)).toNat 0) - (1 : Int))))))) [.i (IntKind.i64.wrap ((v4.getD ((L0.getD (((((v6 + 1) : Nat) : Int) - a3)).toNat 0)).toNat 0) - (1 : Int)))], true), (Nat.blt ((L0.getD (((((v6 + 1) : Nat) : Int) - a3)).toNat 0)).toNat 64, true), ((L0.getD (((((v6 + 1) : Nat) : Int) - a3)).toNat 0) == Int.ofNat ((L0.getD (((((v6 + 1) : Nat) : Int) - a3)).toNat 0)).toNat, true), (dP ((0 + (((L0.getD (((((v6 + 1) : Nat) : Int) - a3)).toNat 0)).toNat * 1)) + ([vi (IntKind.i64.wrap ((v4.getD ((L0.getD (((((v6 + 1) : Nat) : Int) - a3)).toNat 0)).toNat 0) - (1 : Int)))] : List Value).length ≤ ((Zc eI v4) : List Value).length ∧ Zbh (Zc eI v4) (0 + (((L0.getD (((((v6 + 1) : Nat) : Int) - a3)).toNat 0)).toNat * 1)) [vi (IntKind.i64.wrap ((v4.getD ((L0.getD (((((v6 + 1) : Nat) : Int) - a3)).toNat 0)).toNat 0) - (1 : Int)))] = (Zc eI (v4.set ((L0.getD (((((v6 + 1) : Nat) : Int) - a3)).toNat 0)).toNat (IntKind.i64.wrap ((v4.getD ((L0.getD (((((v6 + 1) : Nat) : Int) - a3)).toNat 0)).toNat 0) - (1 : Int)))))), true), (Nat.blt ((L0.getD (((((v6 + 1) : Nat) : Int) - a3)).toNat 0)).toNat 64, true), ((L0.getD (((((v6 + 1) : Nat) : Int) - a3)).toNat 0) == Int.ofNat ((L0.getD (((((v6 + 1) : Nat) : Int) - a3)).toNat 0)).toNat, true), (ZL (Zo 1 (List.drop (0 + (((L0.getD (((((v6 + 1) : Nat) : Int) - a3)).toNat 0)).toNat * 1)) (Zc eI v4))) [.i (v4.getD ((L0.getD (((((v6 + 1) : Nat) : Int) - a3)).toNat 0)).toNat 0)], true), (Nat.blt ((L0.getD (((((v6 + 1) : Nat) : Int) - a3)).toNat 0)).toNat 64, true), ((L0.getD (((((v6 + 1) : Nat) : Int) - a3)).toNat 0) == Int.ofNat ((L0.getD (((((v6 + 1) : Nat) : Int) - a3)).toNat 0)).toNat, true), ((decide ((L0.getD (((((v6 + 1) : Nat) : Int) - a3)).toNat 0) < a2)), true), ((decide ((L0.getD (((((v6 + 1) : Nat) : Int) - a3)).toNat 0) ≥ (0 : Int))), true), (ZL (Zo 1 (List.drop (0 + ((((((v6 + 1) : Nat) : Int) - a3)).toNat * 1)) (Zc eI L0))) [.i (L0.getD (((((v6 + 1) : Nat) : Int) - a3)).toNat 0)], true), (Nat.blt (((((v6 + 1) : Nat) : Int) - a3)).toNat n1, true), (((((v6 + 1) : Nat) : Int) - a3) == Int.ofNat (((((v6 + 1) : Nat) : Int) - a3)).toNat, true), ((IntKind.i64.wrap ((((v6 + 1) : Nat) : Int) - a3)) == ((((v6 + 1) : Nat) : Int) - a3), true), ((IntKind.i64.wrap ((v6 : Int) + (1 : Int))) == (((v6 + 1) : Nat) : Int), true), ((decide ((v5 : Int) < a2)), false), ((decide ((((v6 + 1) : Nat) : Int) < a3)), false), ((IntKind.i64.wrap ((v6 : Int) + (1 : Int))) == (((v6 + 1) : Nat) : Int), true)]) rfl (show 1 ∈ Zp (Zbl 2) from by decide +kernel) (fun gv => by kernel_rfl) (Za (beq_iff_eq.2 ((wrap_i64 ltA).trans (by first | rfl | omega))) <| Za (beq_iff_eq.2 ((wrap_i64 ltA).trans (by first | rfl | omega))) <| oT <| Za (Zw (E := eI) (L := (v4.set ((L0.getD (((((v6 + 1) : Nat) : Int) - a3)).toNat 0)).toNat (IntKind.i64.wrap ((v4.getD ((L0.getD (((((v6 + 1) : Nat) : Int) - a3)).toNat 0)).toNat 0) - (1 : Int))))) (i := ((L0.getD (((((v6 + 1) : Nat) : Int) - a3)).toNat 0)).toNat) (q := 0) ltA (show (0 + (((L0.getD (((((v6 + 1) : Nat) : Int) - a3)).toNat 0)).toNat * 1)) = ((L0.getD (((((v6 + 1) : Nat) : Int) - a3)).toNat 0)).toNat * 1 + 0 from by omega) (show 0 + 1 ≤ 1 from by decide) rfl (by rw [Zch ltA]; first | done | rfl)) <| oB <| oI <| Za (Zh (Zbx (E := eI) (L := v4) (i := ((L0.getD (((((v6 + 1) : Nat) : Int) - a3)).toNat 0)).toNat) (q := 0) (l := [vi (IntKind.i64.wrap ((v4.getD ((L0.getD (((((v6 + 1) : Nat) : Int) - a3)).toNat 0)).toNat 0) - (1 : Int)))]) (IntKind.i64.wrap ((v4.getD ((L0.getD (((((v6 + 1) : Nat) : Int) - a3)).toNat 0)).toNat 0) - (1 : Int))) (by omega) (show (0 + (((L0.getD (((((v6 + 1) : Nat) : Int) - a3)).toNat 0)).toNat * 1)) = ((L0.getD (((((v6 + 1) : Nat) : Int) - a3)).toNat 0)).toNat * 1 + 0 from by omega) (show 0 + 1 ≤ 1 from by decide) rfl)) <| oB <| oI <| Za (Zw (E := eI) (L := v4) (i := ((L0.getD (((((v6 + 1) : Nat) : Int) - a3)).toNat 0)).toNat) (q := 0) (by omega) (show (0 + (((L0.getD (((((v6 + 1) : Nat) : Int) - a3)).toNat 0)).toNat * 1)) = ((L0.getD (((((v6 + 1) : Nat) : Int) - a3)).toNat 0)).toNat * 1 + 0 from by omega) (show 0 + 1 ≤ 1 from by decide) rfl rfl) <| oB <| oI <| oY <| oY <| Za (Zw (E := eI) (L := L0) (i := (((((v6 + 1) : Nat) : Int) - a3)).toNat) (q := 0) (by omega) (show (0 + ((((((v6 + 1) : Nat) : Int) - a3)).toNat * 1)) = (((((v6 + 1) : Nat) : Int) - a3)).toNat * 1 + 0 from by omega) (show 0 + 1 ≤ 1 from by decide) rfl rfl) <| oB <| oI <| Za (beq_iff_eq.2 ((wrap_i64 ltA).trans (by first | rfl | omega))) <| Za (beq_iff_eq.2 ((wrap_i64 ltA).trans (by first | rfl | omega))) <| oN <| oN <| Za (beq_iff_eq.2 ((wrap_i64 ltA).trans (by first | rfl | omega))) Zf) rfl (by decide) (by rfl) (fun _ => ⟨rr, ⟨rr, ⟨rr, ⟨rr, ⟨rr, ⟨rr, ⟨rr, ⟨rr, trivial⟩⟩⟩⟩⟩⟩⟩⟩) ⟨(Zj (E := eI) (α := Int) _ L0 _), ⟨(Zj (E := eI) (α := Int) _ (v4.set ((L0.getD (((((v6 + 1) : Nat) : Int) - a3)).toNat 0)).toNat (IntKind.i64.wrap ((v4.getD ((L0.getD (((((v6 + 1) : Nat) : Int) - a3)).toNat 0)).toNat 0) - (1 : Int)))) _), trivial⟩⟩
              ·
               exact Mach.ok_none
             ·
              exact Mach.ok_none
            ·
             refine Mach.ok_ite (fun g12 => ?_) (fun g12 => ?_)
             ·
              exact Mach.ok_next (M := Z6 L0 n1 a2 a3 N) (cd := 1000000) (cm := 0) (y := (.h1m0 ((v4.set ((L0.getD (((((v6 + 1) : Nat) : Int) - a3)).toNat 0)).toNat (IntKind.i64.wrap ((v4.getD ((L0.getD (((((v6 + 1) : Nat) : Int) - a3)).toNat 0)).toNat 0) - (1 : Int))))) (v5) ((v9 + 1)) : Zm)) (fu := 4000) (orc := (Zn [(0, false), (1, false), (2, true), (3, true), (4, false)] [(0, (((v6 + 1) : Nat) : Int)), (1, (((v6 + 1) : Nat) : Int)), (2, ((((v6 + 1) : Nat) : Int) - a3)), (4, (((v9 + 1) : Nat) : Int))] [(0, (((((v6 + 1) : Nat) : Int) - a3)).toNat), (1, ((L0.getD (((((v6 + 1) : Nat) : Int) - a3)).toNat 0)).toNat), (2, ((L0.getD (((((v6 + 1) : Nat) : Int) - a3)).toNat 0)).toNat), (3, ((L0.getD (((((v6 + 1) : Nat) : Int) - a3)).toNat 0)).toNat)] [(0, [.i (L0.getD (((((v6 + 1) : Nat) : Int) - a3)).toNat 0)]), (1, [.i (v4.getD ((L0.getD (((((v6 + 1) : Nat) : Int) - a3)).toNat 0)).toNat 0)]), (2, [.i (IntKind.i64.wrap ((v4.getD ((L0.getD (((((v6 + 1) : Nat) : Int) - a3)).toNat 0)).toNat 0) - (1 : Int)))])] [(0, .st (Zc eI (v4.set ((L0.getD (((((v6 + 1) : Nat) : Int) - a3)).toNat 0)).toNat (IntKind.i64.wrap ((v4.getD ((L0.getD (((((v6 + 1) : Nat) : Int) - a3)).toNat 0)).toNat 0) - (1 : Int))))))])) (live := [0, 1]) (tv := fun _ => [some (vs 0 0 n1 n1), some (vi a2), some (vi a3), some (vp 1 0), some (vi (v5 : Int)), some (vs 0 0 n1 n1), some (vi (n1 : Int)), some (vi (((v9 + 1) : Nat) : Int))]) (bl := [some (.cells (Zc eI L0) 3), some (.cells (Zc eI (v4.set ((L0.getD (((((v6 + 1) : Nat) : Int) - a3)).toNat 0)).toNat (IntKind.i64.wrap ((v4.getD ((L0.getD (((((v6 + 1) : Nat) : Int) - a3)).toNat 0)).toNat 0) - (1 : Int))))) 31)]) (ob := [((IntKind.i64.wrap ((v9 : Int) + (1 : Int))) == (((v9 + 1) : Nat) : Int), true), (((IntKind.i64.wrap ((v4.getD ((L0.getD (((((v6 + 1) : Nat) : Int) - a3)).toNat 0)).toNat 0) - (1 : Int))) == (0 : Int)), false), (ZL (Zo 1 (List.drop (0 + (((L0.getD (((((v6 + 1) : Nat) : Int) - a3)).toNat 0)).toNat * 1)) (Zc eI (v4.set ((L0.getD (((((v6 + 1) : Nat) : Int) - a3)).toNat 0)).toNat (IntKind.i64.wrap ((v4.getD ((L0.getD (((((v6 + 1) : Nat) : Int) - a3)).toNat 0)).toNat 0) - (1 : Int))))))) [.i (IntKind.i64.wrap ((v4.getD ((L0.getD (((((v6 + 1) : Nat) : Int) - a3)).toNat 0)).toNat 0) - (1 : Int)))], true), (Nat.blt ((L0.getD (((((v6 + 1) : Nat) : Int) - a3)).toNat 0)).toNat 64, true), ((L0.getD (((((v6 + 1) : Nat) : Int) - a3)).toNat 0) == Int.ofNat ((L0.getD (((((v6 + 1) : Nat) : Int) - a3)).toNat 0)).toNat, true), (dP ((0 + (((L0.getD (((((v6 + 1) : Nat) : Int) - a3)).toNat 0)).toNat * 1)) + ([vi (IntKind.i64.wrap ((v4.getD ((L0.getD (((((v6 + 1) : Nat) : Int) - a3)).toNat 0)).toNat 0) - (1 : Int)))] : List Value).length ≤ ((Zc eI v4) : List Value).length ∧ Zbh (Zc eI v4) (0 + (((L0.getD (((((v6 + 1) : Nat) : Int) - a3)).toNat 0)).toNat * 1)) [vi (IntKind.i64.wrap ((v4.getD ((L0.getD (((((v6 + 1) : Nat) : Int) - a3)).toNat 0)).toNat 0) - (1 : Int)))] = (Zc eI (v4.set ((L0.getD (((((v6 + 1) : Nat) : Int) - a3)).toNat 0)).toNat (IntKind.i64.wrap ((v4.getD ((L0.getD (((((v6 + 1) : Nat) : Int) - a3)).toNat 0)).toNat 0) - (1 : Int)))))), true), (Nat.blt ((L0.getD (((((v6 + 1) : Nat) : Int) - a3)).toNat 0)).toNat 64, true), ((L0.getD (((((v6 + 1) : Nat) : Int) - a3)).toNat 0) == Int.ofNat ((L0.getD (((((v6 + 1) : Nat) : Int) - a3)).toNat 0)).toNat, true), (ZL (Zo 1 (List.drop (0 + (((L0.getD (((((v6 + 1) : Nat) : Int) - a3)).toNat 0)).toNat * 1)) (Zc eI v4))) [.i (v4.getD ((L0.getD (((((v6 + 1) : Nat) : Int) - a3)).toNat 0)).toNat 0)], true), (Nat.blt ((L0.getD (((((v6 + 1) : Nat) : Int) - a3)).toNat 0)).toNat 64, true), ((L0.getD (((((v6 + 1) : Nat) : Int) - a3)).toNat 0) == Int.ofNat ((L0.getD (((((v6 + 1) : Nat) : Int) - a3)).toNat 0)).toNat, true), ((decide ((L0.getD (((((v6 + 1) : Nat) : Int) - a3)).toNat 0) < a2)), true), ((decide ((L0.getD (((((v6 + 1) : Nat) : Int) - a3)).toNat 0) ≥ (0 : Int))), true), (ZL (Zo 1 (List.drop (0 + ((((((v6 + 1) : Nat) : Int) - a3)).toNat * 1)) (Zc eI L0))) [.i (L0.getD (((((v6 + 1) : Nat) : Int) - a3)).toNat 0)], true), (Nat.blt (((((v6 + 1) : Nat) : Int) - a3)).toNat n1, true), (((((v6 + 1) : Nat) : Int) - a3) == Int.ofNat (((((v6 + 1) : Nat) : Int) - a3)).toNat, true), ((IntKind.i64.wrap ((((v6 + 1) : Nat) : Int) - a3)) == ((((v6 + 1) : Nat) : Int) - a3), true), ((IntKind.i64.wrap ((v6 : Int) + (1 : Int))) == (((v6 + 1) : Nat) : Int), true), ((decide ((v5 : Int) < a2)), false), ((decide ((((v6 + 1) : Nat) : Int) < a3)), false), ((IntKind.i64.wrap ((v6 : Int) + (1 : Int))) == (((v6 + 1) : Nat) : Int), true)]) rfl (show 1 ∈ Zp (Zbl 2) from by decide +kernel) (fun gv => by kernel_rfl) (Za (beq_iff_eq.2 ((wrap_i64 ltA).trans (by first | rfl | omega))) <| oF <| Za (Zw (E := eI) (L := (v4.set ((L0.getD (((((v6 + 1) : Nat) : Int) - a3)).toNat 0)).toNat (IntKind.i64.wrap ((v4.getD ((L0.getD (((((v6 + 1) : Nat) : Int) - a3)).toNat 0)).toNat 0) - (1 : Int))))) (i := ((L0.getD (((((v6 + 1) : Nat) : Int) - a3)).toNat 0)).toNat) (q := 0) ltA (show (0 + (((L0.getD (((((v6 + 1) : Nat) : Int) - a3)).toNat 0)).toNat * 1)) = ((L0.getD (((((v6 + 1) : Nat) : Int) - a3)).toNat 0)).toNat * 1 + 0 from by omega) (show 0 + 1 ≤ 1 from by decide) rfl (by rw [Zch ltA]; first | done | rfl)) <| oB <| oI <| Za (Zh (Zbx (E := eI) (L := v4) (i := ((L0.getD (((((v6 + 1) : Nat) : Int) - a3)).toNat 0)).toNat) (q := 0) (l := [vi (IntKind.i64.wrap ((v4.getD ((L0.getD (((((v6 + 1) : Nat) : Int) - a3)).toNat 0)).toNat 0) - (1 : Int)))]) (IntKind.i64.wrap ((v4.getD ((L0.getD (((((v6 + 1) : Nat) : Int) - a3)).toNat 0)).toNat 0) - (1 : Int))) (by omega) (show (0 + (((L0.getD (((((v6 + 1) : Nat) : Int) - a3)).toNat 0)).toNat * 1)) = ((L0.getD (((((v6 + 1) : Nat) : Int) - a3)).toNat 0)).toNat * 1 + 0 from by omega) (show 0 + 1 ≤ 1 from by decide) rfl)) <| oB <| oI <| Za (Zw (E := eI) (L := v4) (i := ((L0.getD (((((v6 + 1) : Nat) : Int) - a3)).toNat 0)).toNat) (q := 0) (by omega) (show (0 + (((L0.getD (((((v6 + 1) : Nat) : Int) - a3)).toNat 0)).toNat * 1)) = ((L0.getD (((((v6 + 1) : Nat) : Int) - a3)).toNat 0)).toNat * 1 + 0 from by omega) (show 0 + 1 ≤ 1 from by decide) rfl rfl) <| oB <| oI <| oY <| oY <| Za (Zw (E := eI) (L := L0) (i := (((((v6 + 1) : Nat) : Int) - a3)).toNat) (q := 0) (by omega) (show (0 + ((((((v6 + 1) : Nat) : Int) - a3)).toNat * 1)) = (((((v6 + 1) : Nat) : Int) - a3)).toNat * 1 + 0 from by omega) (show 0 + 1 ≤ 1 from by decide) rfl rfl) <| oB <| oI <| Za (beq_iff_eq.2 ((wrap_i64 ltA).trans (by first | rfl | omega))) <| Za (beq_iff_eq.2 ((wrap_i64 ltA).trans (by first | rfl | omega))) <| oN <| oN <| Za (beq_iff_eq.2 ((wrap_i64 ltA).trans (by first | rfl | omega))) Zf) rfl (by decide) (by rfl) (fun _ => ⟨rr, ⟨rr, ⟨rr, ⟨rr, ⟨rr, ⟨rr, ⟨rr, ⟨rr, trivial⟩⟩⟩⟩⟩⟩⟩⟩) ⟨(Zj (E := eI) (α := Int) _ L0 _), ⟨(Zj (E := eI) (α := Int) _ (v4.set ((L0.getD (((((v6 + 1) : Nat) : Int) - a3)).toNat 0)).toNat (IntKind.i64.wrap ((v4.getD ((L0.getD (((((v6 + 1) : Nat) : Int) - a3)).toNat 0)).toNat 0) - (1 : Int)))) _), trivial⟩⟩
             ·
              exact Mach.ok_none
           ·
            exact Mach.ok_none
          ·
           refine Mach.ok_ite (fun g10 => ?_) (fun g10 => ?_)
           ·
            exact Mach.ok_next (M := Z6 L0 n1 a2 a3 N) (cd := 1000000) (cm := 0) (y := (.h1m0 (v4) (v5) ((v9 + 1)) : Zm)) (fu := 4000) (orc := (Zn [(0, false), (1, false), (2, true), (3, false)] [(0, (((v6 + 1) : Nat) : Int)), (1, (((v6 + 1) : Nat) : Int)), (2, ((((v6 + 1) : Nat) : Int) - a3)), (3, (((v9 + 1) : Nat) : Int))] [(0, (((((v6 + 1) : Nat) : Int) - a3)).toNat)] [(0, [.i (L0.getD (((((v6 + 1) : Nat) : Int) - a3)).toNat 0)])] [])) (live := [0, 1]) (tv := fun _ => [some (vs 0 0 n1 n1), some (vi a2), some (vi a3), some (vp 1 0), some (vi (v5 : Int)), some (vs 0 0 n1 n1), some (vi (n1 : Int)), some (vi (((v9 + 1) : Nat) : Int))]) (bl := [some (.cells (Zc eI L0) 3), some (.cells (Zc eI v4) 31)]) (ob := [((IntKind.i64.wrap ((v9 : Int) + (1 : Int))) == (((v9 + 1) : Nat) : Int), true), ((decide ((L0.getD (((((v6 + 1) : Nat) : Int) - a3)).toNat 0) < a2)), false), ((decide ((L0.getD (((((v6 + 1) : Nat) : Int) - a3)).toNat 0) ≥ (0 : Int))), true), (ZL (Zo 1 (List.drop (0 + ((((((v6 + 1) : Nat) : Int) - a3)).toNat * 1)) (Zc eI L0))) [.i (L0.getD (((((v6 + 1) : Nat) : Int) - a3)).toNat 0)], true), (Nat.blt (((((v6 + 1) : Nat) : Int) - a3)).toNat n1, true), (((((v6 + 1) : Nat) : Int) - a3) == Int.ofNat (((((v6 + 1) : Nat) : Int) - a3)).toNat, true), ((IntKind.i64.wrap ((((v6 + 1) : Nat) : Int) - a3)) == ((((v6 + 1) : Nat) : Int) - a3), true), ((IntKind.i64.wrap ((v6 : Int) + (1 : Int))) == (((v6 + 1) : Nat) : Int), true), ((decide ((v5 : Int) < a2)), false), ((decide ((((v6 + 1) : Nat) : Int) < a3)), false), ((IntKind.i64.wrap ((v6 : Int) + (1 : Int))) == (((v6 + 1) : Nat) : Int), true)]) rfl (show 1 ∈ Zp (Zbl 2) from by decide +kernel) (fun gv => by kernel_rfl) (Za (beq_iff_eq.2 ((wrap_i64 ltA).trans (by first | rfl | omega))) <| oN <| oY <| Za (Zw (E := eI) (L := L0) (i := (((((v6 + 1) : Nat) : Int) - a3)).toNat) (q := 0) (by omega) (show (0 + ((((((v6 + 1) : Nat) : Int) - a3)).toNat * 1)) = (((((v6 + 1) : Nat) : Int) - a3)).toNat * 1 + 0 from by omega) (show 0 + 1 ≤ 1 from by decide) rfl rfl) <| oB <| oI <| Za (beq_iff_eq.2 ((wrap_i64 ltA).trans (by first | rfl | omega))) <| Za (beq_iff_eq.2 ((wrap_i64 ltA).trans (by first | rfl | omega))) <| oN <| oN <| Za (beq_iff_eq.2 ((wrap_i64 ltA).trans (by first | rfl | omega))) Zf) rfl (by decide) (by rfl) (fun _ => ⟨rr, ⟨rr, ⟨rr, ⟨rr, ⟨rr, ⟨rr, ⟨rr, ⟨rr, trivial⟩⟩⟩⟩⟩⟩⟩⟩) ⟨(Zj (E := eI) (α := Int) _ L0 _), ⟨(Zj (E := eI) (α := Int) _ v4 _), trivial⟩⟩
           ·
            exact Mach.ok_none
         ·
          refine Mach.ok_ite (fun g9 => ?_) (fun g9 => ?_)
          ·
           exact Mach.ok_next (M := Z6 L0 n1 a2 a3 N) (cd := 1000000) (cm := 0) (y := (.h1m0 (v4) (v5) ((v9 + 1)) : Zm)) (fu := 4000) (orc := (Zn [(0, false), (1, false), (2, false)] [(0, (((v6 + 1) : Nat) : Int)), (1, (((v6 + 1) : Nat) : Int)), (2, ((((v6 + 1) : Nat) : Int) - a3)), (3, (((v9 + 1) : Nat) : Int))] [(0, (((((v6 + 1) : Nat) : Int) - a3)).toNat)] [(0, [.i (L0.getD (((((v6 + 1) : Nat) : Int) - a3)).toNat 0)])] [])) (live := [0, 1]) (tv := fun _ => [some (vs 0 0 n1 n1), some (vi a2), some (vi a3), some (vp 1 0), some (vi (v5 : Int)), some (vs 0 0 n1 n1), some (vi (n1 : Int)), some (vi (((v9 + 1) : Nat) : Int))]) (bl := [some (.cells (Zc eI L0) 3), some (.cells (Zc eI v4) 31)]) (ob := [((IntKind.i64.wrap ((v9 : Int) + (1 : Int))) == (((v9 + 1) : Nat) : Int), true), ((decide ((L0.getD (((((v6 + 1) : Nat) : Int) - a3)).toNat 0) ≥ (0 : Int))), false), (ZL (Zo 1 (List.drop (0 + ((((((v6 + 1) : Nat) : Int) - a3)).toNat * 1)) (Zc eI L0))) [.i (L0.getD (((((v6 + 1) : Nat) : Int) - a3)).toNat 0)], true), (Nat.blt (((((v6 + 1) : Nat) : Int) - a3)).toNat n1, true), (((((v6 + 1) : Nat) : Int) - a3) == Int.ofNat (((((v6 + 1) : Nat) : Int) - a3)).toNat, true), ((IntKind.i64.wrap ((((v6 + 1) : Nat) : Int) - a3)) == ((((v6 + 1) : Nat) : Int) - a3), true), ((IntKind.i64.wrap ((v6 : Int) + (1 : Int))) == (((v6 + 1) : Nat) : Int), true), ((decide ((v5 : Int) < a2)), false), ((decide ((((v6 + 1) : Nat) : Int) < a3)), false), ((IntKind.i64.wrap ((v6 : Int) + (1 : Int))) == (((v6 + 1) : Nat) : Int), true)]) rfl (show 1 ∈ Zp (Zbl 2) from by decide +kernel) (fun gv => by kernel_rfl) (Za (beq_iff_eq.2 ((wrap_i64 ltA).trans (by first | rfl | omega))) <| oN <| Za (Zw (E := eI) (L := L0) (i := (((((v6 + 1) : Nat) : Int) - a3)).toNat) (q := 0) (by omega) (show (0 + ((((((v6 + 1) : Nat) : Int) - a3)).toNat * 1)) = (((((v6 + 1) : Nat) : Int) - a3)).toNat * 1 + 0 from by omega) (show 0 + 1 ≤ 1 from by decide) rfl rfl) <| oB <| oI <| Za (beq_iff_eq.2 ((wrap_i64 ltA).trans (by first | rfl | omega))) <| Za (beq_iff_eq.2 ((wrap_i64 ltA).trans (by first | rfl | omega))) <| oN <| oN <| Za (beq_iff_eq.2 ((wrap_i64 ltA).trans (by first | rfl | omega))) Zf) rfl (by decide) (by rfl) (fun _ => ⟨rr, ⟨rr, ⟨rr, ⟨rr, ⟨rr, ⟨rr, ⟨rr, ⟨rr, trivial⟩⟩⟩⟩⟩⟩⟩⟩) ⟨(Zj (E := eI) (α := Int) _ L0 _), ⟨(Zj (E := eI) (α := Int) _ v4 _), trivial⟩⟩
          ·
           exact Mach.ok_none
        ·
         exact Mach.ok_none
       ·
        exact Mach.ok_none
    ·
     exact Mach.ok_none
   ·
    exact Mach.ok_none
  ·
   exact Mach.ok_none
 ·
  exact Mach.ok_none

theorem Zkx (L0 : List Int) (n1 : Nat) (a2 a3 : Int) (N : Nat) : (Z6 L0 n1 a2 a3 N).Enter Tryz.prog Zy #[vs 0 0 n1 n1, vi a2, vi a3] (Zd4 L0 n1 a2 a3 N) := by
 unfold Zd4
 refine Mach.en_ite (fun g0 => ?_) (fun g0 => ?_)
 ·
  refine Mach.en_ite (fun g1 => ?_) (fun g1 => ?_)
  ·
   refine Mach.en_ite (fun g2 => ?_) (fun g2 => ?_)
   ·
    exact Mach.en_fin (M := Z6 L0 n1 a2 a3 N) (cd := 1000000) (cm := 0) (r := (.r0 (false) : ZE)) (fu := 4000) (orc := (Zn [(0, true), (1, true), (3, true)] [] [] [] [])) (live := [0]) (u := vf) (bl := [some (.cells (Zc eI L0) 3)]) (ob := [((decide (a3 < (1 : Int))), true), ((decide (a2 ≤ (64 : Int))), true), ((decide (a2 ≥ (1 : Int))), true)]) (by kernel_rfl) (oY <| oY <| oY Zf) rfl (by decide) (by rfl) rr ⟨(Zj (E := eI) (α := Int) _ L0 _), trivial⟩
   ·
    exact Mach.en_head (bK := Zab 1) (M := Z6 L0 n1 a2 a3 N) (cd := 1000000) (cm := 0) (y := (.h1m0 ((List.replicate 64 (0 : Int))) (0) (0) : Zm)) (fu := 4000) (orc := (Zn [(0, true), (1, true), (3, false)] [] [] [] [])) (live := [0, 1]) (tv := [some (vs 0 0 n1 n1), some (vi a2), some (vi a3), some (vp 1 0), some (vq), some (vs 0 0 n1 n1), some (vi (n1 : Int)), some (vq)]) (bl := [some (.cells (Zc eI L0) 3), some (.cells [vq, vq, vq, vq, vq, vq, vq, vq, vq, vq, vq, vq, vq, vq, vq, vq, vq, vq, vq, vq, vq, vq, vq, vq, vq, vq, vq, vq, vq, vq, vq, vq, vq, vq, vq, vq, vq, vq, vq, vq, vq, vq, vq, vq, vq, vq, vq, vq, vq, vq, vq, vq, vq, vq, vq, vq, vq, vq, vq, vq, vq, vq, vq, vq] 31)]) (ob := [((decide (a3 < (1 : Int))), false), ((decide (a2 ≤ (64 : Int))), true), ((decide (a2 ≥ (1 : Int))), true)]) rfl rfl (show Zp (Zab 1).2 = [] from rfl) (by kernel_rfl) (oN <| oY <| oY Zf) rfl (by decide) (by rfl) ⟨rr, ⟨rr, ⟨rr, ⟨rr, ⟨⟨Eq.trans (show (vi ((0 : Nat) : Int) : Value) = vq from (congrArg (Value.int .i64) (by first | rfl | omega))) (by rfl), by rfl⟩, ⟨rr, ⟨rr, ⟨⟨Eq.trans (show (vi ((0 : Nat) : Int) : Value) = vq from (congrArg (Value.int .i64) (by first | rfl | omega))) (by rfl), by rfl⟩, trivial⟩⟩⟩⟩⟩⟩⟩⟩ ⟨(Zj (E := eI) (α := Int) _ L0 _), ⟨(ZhY (E := eI) _ (L := (List.replicate 64 (0 : Int))) _ (show ([vq, vq, vq, vq, vq, vq, vq, vq, vq, vq, vq, vq, vq, vq, vq, vq, vq, vq, vq, vq, vq, vq, vq, vq, vq, vq, vq, vq, vq, vq, vq, vq, vq, vq, vq, vq, vq, vq, vq, vq, vq, vq, vq, vq, vq, vq, vq, vq, vq, vq, vq, vq, vq, vq, vq, vq, vq, vq, vq, vq, vq, vq, vq, vq] : List Value) = Zc eI (List.replicate 64 (0 : Int)) from rfl)), trivial⟩⟩
  ·
   exact Mach.en_fin (M := Z6 L0 n1 a2 a3 N) (cd := 1000000) (cm := 0) (r := (.r0 (false) : ZE)) (fu := 4000) (orc := (Zn [(0, true), (1, false)] [] [] [] [])) (live := [0]) (u := vf) (bl := [some (.cells (Zc eI L0) 3)]) (ob := [((decide (a2 ≤ (64 : Int))), false), ((decide (a2 ≥ (1 : Int))), true)]) (by kernel_rfl) (oN <| oY Zf) rfl (by decide) (by rfl) rr ⟨(Zj (E := eI) (α := Int) _ L0 _), trivial⟩
 ·
  exact Mach.en_fin (M := Z6 L0 n1 a2 a3 N) (cd := 1000000) (cm := 0) (r := (.r0 (false) : ZE)) (fu := 4000) (orc := (Zn [(0, false)] [] [] [] [])) (live := [0]) (u := vf) (bl := [some (.cells (Zc eI L0) 3)]) (ob := [((decide (a2 ≥ (1 : Int))), false)]) (by kernel_rfl) (oN Zf) rfl (by decide) (by rfl) rr ⟨(Zj (E := eI) (α := Int) _ L0 _), trivial⟩

theorem Zi9 (L0 : List Int) (n1 : Nat) (a2 a3 : Int) (N : Nat) (r : ZE) (h : ZdK L0 n1 a2 a3 N = some r) : LSpec Tryz.prog 7 #[vs 0 0 n1 n1, vi a2, vi a3] [.cells (Zc eI L0) 3] (Zik L0 n1 a2 a3 r) (Zhj L0 n1 a2 a3 r) :=
 Mach.spec Zds (Z6 L0 n1 a2 a3 N) Tryz.func7 (by kernel_rfl) (by kernel_rfl) (fun x => by cases x <;> exact Zac _ rfl) (fun r => by cases r <;> exact Zac _ rfl) (fun x => by
  cases x with
  | h1m0 _ _ _ => exact fun _ => (show ¬ (1 ∈ Zp (Zab 1).2) from by decide +kernel)
  | h2m0 _ _ _ _ => exact fun _ => (show ¬ (2 ∈ Zp (Zab 2).2) from by decide +kernel)
  ) (fun x => (show (Z6 L0 n1 a2 a3 N).Ok Tryz.prog Zy x (ZQ L0 n1 a2 a3 N x) from by
  cases x with
  | h1m0 v4 v5 v8 => exact Zil L0 n1 a2 a3 v4 v5 v8 N
  | h2m0 v4 v5 v6 v9 => exact Zim L0 n1 a2 a3 v4 v5 v6 v9 N
  )) (Zkx L0 n1 a2 a3 N) (n := N) h

noncomputable def Zhl (L0 : List Int) (n1 : Nat) (a2 a3 : Int) (w1 : Bool) (k0 n : Nat) : Zc2 := .call [(k0, .cells (Zc eI L0) 3)] (Value.bool w1) [] 0
def ZeU (A : Array Value) (L0 : List Int) (n1 : Nat) (a2 a3 : Int) (w1 : Bool) (k0 n : Nat) : Prop := ZX Tryz.prog 7 A [(k0, .cells (Zc eI L0) 3)] (Value.bool w1) [] n 0

theorem Zhm (A : Array Value) (L0 : List Int) (n1 : Nat) (a2 a3 : Int) (w1 : Bool) (N : Nat) (h : ZdK L0 n1 a2 a3 N = some (.r0 w1)) (k0 n : Nat) (hA : A = #[vs k0 0 n1 n1, vi a2, vi a3]) (hnd : ([k0] : List Nat).Nodup) (hlt : ∀ k ∈ ([k0] : List Nat), k < n) : ZeU A L0 n1 a2 a3 w1 k0 n :=
 ZbZ hA (LSpec.callL (show LSpec Tryz.prog 7 #[vs 0 0 n1 n1, vi a2, vi a3] [.cells (Zc eI L0) 3] (Value.bool w1) [some (.cells (Zc eI L0) 3)] from Zi9 L0 n1 a2 a3 N _ h) [k0] n [] rfl hnd hlt (show 1 ≤ 1 from by decide) (show ∀ j ∈ ([] : List Nat), j < 1 from by decide) (by rfl) ⟨(ZbE _ _ _), trivial⟩ (by rfl) ⟨(ZbE _ _ _), trivial⟩ ⟨.inr rfl, trivial⟩ rfl rfl rfl (Zfo (Zfp rfl (Ze3 _ _ _)) rfl) rfl)

noncomputable def Ze6 (L0 : List Int) (a1 a2 a3 : Int) : Zk → Value
 | .r0 w0 => Value.bool w0
noncomputable def ZdY (L0 : List Int) (a1 a2 a3 : Int) : Zk → List (Option AObj)
 | .r0 w0 => []

theorem Zg9 (L0 : List Int) (a1 a2 a3 : Int) (N : Nat) : Fx Tryz.prog Zy Tryz.f3 [] #[ms eI L0, vi a1, vi a2, Value.int .u8 a3] (Ze6 L0 a1 a2 a3) (ZdY L0 a1 a2 a3) (ZbG L0 a1 a2 a3 N) := by
 unfold ZbG
 refine ZcC (fun g0 => ?_) (fun g0 => ?_)
 ·
  refine ZcC (fun g1 => ?_) (fun g1 => ?_)
  ·
   refine ZbY (fun z2 c2 => ?_)
   cases z2 with
   | r0 =>
    refine ZbY (fun z3 c3 => ?_)
    cases z3 with
    | r0 =>
     refine ZbY (fun z4 c4 => ?_)
     cases z4 with
     | r0 =>
      refine ZbY (fun z5 c5 => ?_)
      cases z5 with
      | r0 y5_0 =>
       refine ZbY (fun z6 c6 => ?_)
       cases z6 with
       | r0 y6_0 =>
        refine ZcC (fun g7 => ?_) (fun g7 => ?_)
        ·
         exact ZcD (r := (.r0 (false) : Zk)) (fu := 4000) (orc := (Zn [(1, true)] [(0, a3), (2, a3)] [] [] [(0, .ms 0 ((if (60 : Int) < (L0.length : Int) then (60 : Int) else (L0.length : Int))).toNat (L0.take ((if (60 : Int) < (L0.length : Int) then (60 : Int) else (L0.length : Int))).toNat).length (Zl eI (L0.take ((if (60 : Int) < (L0.length : Int) then (60 : Int) else (L0.length : Int))).toNat))), (2, (Zcs (a1) ((Int.tmod a3 (20 : Int)))    0)), (4, (Zcd (a1) ((Int.tmod a3 (20 : Int)))    0)), (5, (Zbz     0)), (6, (Zbp ((L0.take ((if (60 : Int) < (L0.length : Int) then (60 : Int) else (L0.length : Int))).toNat)) (a1) (a2)  y5_0  0)), (7, (ZaU ((L0.take ((if (60 : Int) < (L0.length : Int) then (60 : Int) else (L0.length : Int))).toNat)) (a1) (a2)  y6_0  0))])) (live := []) (u := vf) (bl := []) (ob := [((!(y5_0 == y6_0)), true), (dP (ZaF #[ms eI (L0.take ((if (60 : Int) < (L0.length : Int) then (60 : Int) else (L0.length : Int))).toNat), vi a1, vi a2] ((L0.take ((if (60 : Int) < (L0.length : Int) then (60 : Int) else (L0.length : Int))).toNat)) (a1) (a2)  y6_0  0), true), (dP (Zba #[ms eI (L0.take ((if (60 : Int) < (L0.length : Int) then (60 : Int) else (L0.length : Int))).toNat), vi a1, vi a2] ((L0.take ((if (60 : Int) < (L0.length : Int) then (60 : Int) else (L0.length : Int))).toNat)) (a1) (a2)  y5_0  0), true), (dP (ZaS #[vn, vn]     0), true), (dP (Zbr #[vi a1, vi (Int.tmod a3 (20 : Int))] (a1) ((Int.tmod a3 (20 : Int)))    0), true), ((IntKind.i64.wrap a3) == a3, true), (dP (Zb3 #[vi a1, vi (Int.tmod a3 (20 : Int))] (a1) ((Int.tmod a3 (20 : Int)))    0), true), ((IntKind.i64.wrap a3) == a3, true), (dP (0 ≤ ((if (60 : Int) < (L0.length : Int) then (60 : Int) else (L0.length : Int))).toNat ∧ ((if (60 : Int) < (L0.length : Int) then (60 : Int) else (L0.length : Int))).toNat ≤ L0.length ∧ ZK (code (Zl eI L0)) (0 + 0 * 1) (Zl eI (L0.take ((if (60 : Int) < (L0.length : Int) then (60 : Int) else (L0.length : Int))).toNat)).length = some (Zl eI (L0.take ((if (60 : Int) < (L0.length : Int) then (60 : Int) else (L0.length : Int))).toNat)) ∧ (((if (60 : Int) < (L0.length : Int) then (60 : Int) else (L0.length : Int))).toNat - 0) * 1 = (Zl eI (L0.take ((if (60 : Int) < (L0.length : Int) then (60 : Int) else (L0.length : Int))).toNat)).length ∧ (L0.take ((if (60 : Int) < (L0.length : Int) then (60 : Int) else (L0.length : Int))).toNat).length = ((if (60 : Int) < (L0.length : Int) then (60 : Int) else (L0.length : Int))).toNat - 0), true), ((if (60 : Int) < (L0.length : Int) then (60 : Int) else (L0.length : Int)) == Int.ofNat ((if (60 : Int) < (L0.length : Int) then (60 : Int) else (L0.length : Int))).toNat, true), (dS 0, true)]) (by kernel_rfl) (Za (ZnK (by first | assumption | rfl | simp_all)) <| Za (Zh (ZaV #[ms eI (L0.take ((if (60 : Int) < (L0.length : Int) then (60 : Int) else (L0.length : Int))).toNat), vi a1, vi a2] ((L0.take ((if (60 : Int) < (L0.length : Int) then (60 : Int) else (L0.length : Int))).toNat)) (a1) (a2)  y6_0 N c6  0 rfl (by decide) (by decide))) <| Za (Zh (Zbq #[ms eI (L0.take ((if (60 : Int) < (L0.length : Int) then (60 : Int) else (L0.length : Int))).toNat), vi a1, vi a2] ((L0.take ((if (60 : Int) < (L0.length : Int) then (60 : Int) else (L0.length : Int))).toNat)) (a1) (a2)  y5_0 N c5  0 rfl (by decide) (by decide))) <| Za (Zh (Zb0 #[vn, vn]    N c4  0 rfl (by decide) (by decide))) <| Za (Zh (Zce #[vi a1, vi (Int.tmod a3 (20 : Int))] (a1) ((Int.tmod a3 (20 : Int)))   N c3  0 rfl (by decide) (by decide))) <| Za (beq_iff_eq.2 (wrap_i64 ltA)) <| Za (Zh (Zct #[vi a1, vi (Int.tmod a3 (20 : Int))] (a1) ((Int.tmod a3 (20 : Int)))   N c2  0 rfl (by decide) (by decide))) <| Za (beq_iff_eq.2 (wrap_i64 ltA)) <| Za (Zh (ZcN (E := eI) (L := L0) (R := (L0.take ((if (60 : Int) < (L0.length : Int) then (60 : Int) else (L0.length : Int))).toNat)) (l := 0) (h := ((if (60 : Int) < (L0.length : Int) then (60 : Int) else (L0.length : Int))).toNat) (size := 1) ltA ltA (by decide) (by simp))) <| oI <| oR Zf) rfl (by decide) (by rfl) rr trivial
        ·
         refine ZcC (fun g8 => ?_) (fun g8 => ?_)
         ·
          exact ZcD (r := (.r0 (true) : Zk)) (fu := 4000) (orc := (Zn [(1, false), (2, true)] [(0, a3), (2, a3)] [] [] [(0, .ms 0 ((if (60 : Int) < (L0.length : Int) then (60 : Int) else (L0.length : Int))).toNat (L0.take ((if (60 : Int) < (L0.length : Int) then (60 : Int) else (L0.length : Int))).toNat).length (Zl eI (L0.take ((if (60 : Int) < (L0.length : Int) then (60 : Int) else (L0.length : Int))).toNat))), (2, (Zcs (a1) ((Int.tmod a3 (20 : Int)))    0)), (4, (Zcd (a1) ((Int.tmod a3 (20 : Int)))    0)), (5, (Zbz     0)), (6, (Zbp ((L0.take ((if (60 : Int) < (L0.length : Int) then (60 : Int) else (L0.length : Int))).toNat)) (a1) (a2)  y5_0  0)), (7, (ZaU ((L0.take ((if (60 : Int) < (L0.length : Int) then (60 : Int) else (L0.length : Int))).toNat)) (a1) (a2)  y6_0  0))])) (live := []) (u := vT) (bl := []) (ob := [((decide (a1 < (1 : Int))), true), ((!(y5_0 == y6_0)), false), (dP (ZaF #[ms eI (L0.take ((if (60 : Int) < (L0.length : Int) then (60 : Int) else (L0.length : Int))).toNat), vi a1, vi a2] ((L0.take ((if (60 : Int) < (L0.length : Int) then (60 : Int) else (L0.length : Int))).toNat)) (a1) (a2)  y6_0  0), true), (dP (Zba #[ms eI (L0.take ((if (60 : Int) < (L0.length : Int) then (60 : Int) else (L0.length : Int))).toNat), vi a1, vi a2] ((L0.take ((if (60 : Int) < (L0.length : Int) then (60 : Int) else (L0.length : Int))).toNat)) (a1) (a2)  y5_0  0), true), (dP (ZaS #[vn, vn]     0), true), (dP (Zbr #[vi a1, vi (Int.tmod a3 (20 : Int))] (a1) ((Int.tmod a3 (20 : Int)))    0), true), ((IntKind.i64.wrap a3) == a3, true), (dP (Zb3 #[vi a1, vi (Int.tmod a3 (20 : Int))] (a1) ((Int.tmod a3 (20 : Int)))    0), true), ((IntKind.i64.wrap a3) == a3, true), (dP (0 ≤ ((if (60 : Int) < (L0.length : Int) then (60 : Int) else (L0.length : Int))).toNat ∧ ((if (60 : Int) < (L0.length : Int) then (60 : Int) else (L0.length : Int))).toNat ≤ L0.length ∧ ZK (code (Zl eI L0)) (0 + 0 * 1) (Zl eI (L0.take ((if (60 : Int) < (L0.length : Int) then (60 : Int) else (L0.length : Int))).toNat)).length = some (Zl eI (L0.take ((if (60 : Int) < (L0.length : Int) then (60 : Int) else (L0.length : Int))).toNat)) ∧ (((if (60 : Int) < (L0.length : Int) then (60 : Int) else (L0.length : Int))).toNat - 0) * 1 = (Zl eI (L0.take ((if (60 : Int) < (L0.length : Int) then (60 : Int) else (L0.length : Int))).toNat)).length ∧ (L0.take ((if (60 : Int) < (L0.length : Int) then (60 : Int) else (L0.length : Int))).toNat).length = ((if (60 : Int) < (L0.length : Int) then (60 : Int) else (L0.length : Int))).toNat - 0), true), ((if (60 : Int) < (L0.length : Int) then (60 : Int) else (L0.length : Int)) == Int.ofNat ((if (60 : Int) < (L0.length : Int) then (60 : Int) else (L0.length : Int))).toNat, true), (dS 0, true)]) (by kernel_rfl) (oY <| Za (ZeG (by first | assumption | rfl | simp_all)) <| Za (Zh (ZaV #[ms eI (L0.take ((if (60 : Int) < (L0.length : Int) then (60 : Int) else (L0.length : Int))).toNat), vi a1, vi a2] ((L0.take ((if (60 : Int) < (L0.length : Int) then (60 : Int) else (L0.length : Int))).toNat)) (a1) (a2)  y6_0 N c6  0 rfl (by decide) (by decide))) <| Za (Zh (Zbq #[ms eI (L0.take ((if (60 : Int) < (L0.length : Int) then (60 : Int) else (L0.length : Int))).toNat), vi a1, vi a2] ((L0.take ((if (60 : Int) < (L0.length : Int) then (60 : Int) else (L0.length : Int))).toNat)) (a1) (a2)  y5_0 N c5  0 rfl (by decide) (by decide))) <| Za (Zh (Zb0 #[vn, vn]    N c4  0 rfl (by decide) (by decide))) <| Za (Zh (Zce #[vi a1, vi (Int.tmod a3 (20 : Int))] (a1) ((Int.tmod a3 (20 : Int)))   N c3  0 rfl (by decide) (by decide))) <| Za (beq_iff_eq.2 (wrap_i64 ltA)) <| Za (Zh (Zct #[vi a1, vi (Int.tmod a3 (20 : Int))] (a1) ((Int.tmod a3 (20 : Int)))   N c2  0 rfl (by decide) (by decide))) <| Za (beq_iff_eq.2 (wrap_i64 ltA)) <| Za (Zh (ZcN (E := eI) (L := L0) (R := (L0.take ((if (60 : Int) < (L0.length : Int) then (60 : Int) else (L0.length : Int))).toNat)) (l := 0) (h := ((if (60 : Int) < (L0.length : Int) then (60 : Int) else (L0.length : Int))).toNat) (size := 1) ltA ltA (by decide) (by simp))) <| oI <| oR Zf) rfl (by decide) (by rfl) rr trivial
         ·
          refine ZcC (fun g9 => ?_) (fun g9 => ?_)
          ·
           exact ZcD (r := (.r0 (true) : Zk)) (fu := 4000) (orc := (Zn [(1, false), (2, false), (3, true)] [(0, a3), (2, a3)] [] [] [(0, .ms 0 ((if (60 : Int) < (L0.length : Int) then (60 : Int) else (L0.length : Int))).toNat (L0.take ((if (60 : Int) < (L0.length : Int) then (60 : Int) else (L0.length : Int))).toNat).length (Zl eI (L0.take ((if (60 : Int) < (L0.length : Int) then (60 : Int) else (L0.length : Int))).toNat))), (2, (Zcs (a1) ((Int.tmod a3 (20 : Int)))    0)), (4, (Zcd (a1) ((Int.tmod a3 (20 : Int)))    0)), (5, (Zbz     0)), (6, (Zbp ((L0.take ((if (60 : Int) < (L0.length : Int) then (60 : Int) else (L0.length : Int))).toNat)) (a1) (a2)  y5_0  0)), (7, (ZaU ((L0.take ((if (60 : Int) < (L0.length : Int) then (60 : Int) else (L0.length : Int))).toNat)) (a1) (a2)  y6_0  0))])) (live := []) (u := vT) (bl := []) (ob := [((decide (a1 > (64 : Int))), true), ((decide (a1 < (1 : Int))), false), ((!(y5_0 == y6_0)), false), (dP (ZaF #[ms eI (L0.take ((if (60 : Int) < (L0.length : Int) then (60 : Int) else (L0.length : Int))).toNat), vi a1, vi a2] ((L0.take ((if (60 : Int) < (L0.length : Int) then (60 : Int) else (L0.length : Int))).toNat)) (a1) (a2)  y6_0  0), true), (dP (Zba #[ms eI (L0.take ((if (60 : Int) < (L0.length : Int) then (60 : Int) else (L0.length : Int))).toNat), vi a1, vi a2] ((L0.take ((if (60 : Int) < (L0.length : Int) then (60 : Int) else (L0.length : Int))).toNat)) (a1) (a2)  y5_0  0), true), (dP (ZaS #[vn, vn]     0), true), (dP (Zbr #[vi a1, vi (Int.tmod a3 (20 : Int))] (a1) ((Int.tmod a3 (20 : Int)))    0), true), ((IntKind.i64.wrap a3) == a3, true), (dP (Zb3 #[vi a1, vi (Int.tmod a3 (20 : Int))] (a1) ((Int.tmod a3 (20 : Int)))    0), true), ((IntKind.i64.wrap a3) == a3, true), (dP (0 ≤ ((if (60 : Int) < (L0.length : Int) then (60 : Int) else (L0.length : Int))).toNat ∧ ((if (60 : Int) < (L0.length : Int) then (60 : Int) else (L0.length : Int))).toNat ≤ L0.length ∧ ZK (code (Zl eI L0)) (0 + 0 * 1) (Zl eI (L0.take ((if (60 : Int) < (L0.length : Int) then (60 : Int) else (L0.length : Int))).toNat)).length = some (Zl eI (L0.take ((if (60 : Int) < (L0.length : Int) then (60 : Int) else (L0.length : Int))).toNat)) ∧ (((if (60 : Int) < (L0.length : Int) then (60 : Int) else (L0.length : Int))).toNat - 0) * 1 = (Zl eI (L0.take ((if (60 : Int) < (L0.length : Int) then (60 : Int) else (L0.length : Int))).toNat)).length ∧ (L0.take ((if (60 : Int) < (L0.length : Int) then (60 : Int) else (L0.length : Int))).toNat).length = ((if (60 : Int) < (L0.length : Int) then (60 : Int) else (L0.length : Int))).toNat - 0), true), ((if (60 : Int) < (L0.length : Int) then (60 : Int) else (L0.length : Int)) == Int.ofNat ((if (60 : Int) < (L0.length : Int) then (60 : Int) else (L0.length : Int))).toNat, true), (dS 0, true)]) (by kernel_rfl) (oY <| oN <| Za (ZeG (by first | assumption | rfl | simp_all)) <| Za (Zh (ZaV #[ms eI (L0.take ((if (60 : Int) < (L0.length : Int) then (60 : Int) else (L0.length : Int))).toNat), vi a1, vi a2] ((L0.take ((if (60 : Int) < (L0.length : Int) then (60 : Int) else (L0.length : Int))).toNat)) (a1) (a2)  y6_0 N c6  0 rfl (by decide) (by decide))) <| Za (Zh (Zbq #[ms eI (L0.take ((if (60 : Int) < (L0.length : Int) then (60 : Int) else (L0.length : Int))).toNat), vi a1, vi a2] ((L0.take ((if (60 : Int) < (L0.length : Int) then (60 : Int) else (L0.length : Int))).toNat)) (a1) (a2)  y5_0 N c5  0 rfl (by decide) (by decide))) <| Za (Zh (Zb0 #[vn, vn]    N c4  0 rfl (by decide) (by decide))) <| Za (Zh (Zce #[vi a1, vi (Int.tmod a3 (20 : Int))] (a1) ((Int.tmod a3 (20 : Int)))   N c3  0 rfl (by decide) (by decide))) <| Za (beq_iff_eq.2 (wrap_i64 ltA)) <| Za (Zh (Zct #[vi a1, vi (Int.tmod a3 (20 : Int))] (a1) ((Int.tmod a3 (20 : Int)))   N c2  0 rfl (by decide) (by decide))) <| Za (beq_iff_eq.2 (wrap_i64 ltA)) <| Za (Zh (ZcN (E := eI) (L := L0) (R := (L0.take ((if (60 : Int) < (L0.length : Int) then (60 : Int) else (L0.length : Int))).toNat)) (l := 0) (h := ((if (60 : Int) < (L0.length : Int) then (60 : Int) else (L0.length : Int))).toNat) (size := 1) ltA ltA (by decide) (by simp))) <| oI <| oR Zf) rfl (by decide) (by rfl) rr trivial
          ·
           refine ZbY (fun z10 c10 => ?_)
           cases z10 with
           | r0 y10_0 =>
            refine ZcC (fun g11 => ?_) (fun g11 => ?_)
            ·
             subst g11
             exact ZcD (r := (.r0 (true) : Zk)) (fu := 4000) (orc := (Zn [(1, false), (2, false), (3, false)] [(0, a3), (2, a3)] [] [] [(0, .ms 0 ((if (60 : Int) < (L0.length : Int) then (60 : Int) else (L0.length : Int))).toNat (L0.take ((if (60 : Int) < (L0.length : Int) then (60 : Int) else (L0.length : Int))).toNat).length (Zl eI (L0.take ((if (60 : Int) < (L0.length : Int) then (60 : Int) else (L0.length : Int))).toNat))), (2, (Zcs (a1) ((Int.tmod a3 (20 : Int)))    0)), (4, (Zcd (a1) ((Int.tmod a3 (20 : Int)))    0)), (5, (Zbz     0)), (6, (Zbp ((L0.take ((if (60 : Int) < (L0.length : Int) then (60 : Int) else (L0.length : Int))).toNat)) (a1) (a2)  y5_0  0)), (7, (ZaU ((L0.take ((if (60 : Int) < (L0.length : Int) then (60 : Int) else (L0.length : Int))).toNat)) (a1) (a2)  y6_0  0)), (8, (Zhh (a1) (a1)  true  0))])) (live := []) (u := vT) (bl := []) (ob := [(dP (ZeS #[vn, vi a1, vi a1] (a1) (a1)  true  0), true), ((decide (a1 > (64 : Int))), false), ((decide (a1 < (1 : Int))), false), ((!(y5_0 == y6_0)), false), (dP (ZaF #[ms eI (L0.take ((if (60 : Int) < (L0.length : Int) then (60 : Int) else (L0.length : Int))).toNat), vi a1, vi a2] ((L0.take ((if (60 : Int) < (L0.length : Int) then (60 : Int) else (L0.length : Int))).toNat)) (a1) (a2)  y6_0  0), true), (dP (Zba #[ms eI (L0.take ((if (60 : Int) < (L0.length : Int) then (60 : Int) else (L0.length : Int))).toNat), vi a1, vi a2] ((L0.take ((if (60 : Int) < (L0.length : Int) then (60 : Int) else (L0.length : Int))).toNat)) (a1) (a2)  y5_0  0), true), (dP (ZaS #[vn, vn]     0), true), (dP (Zbr #[vi a1, vi (Int.tmod a3 (20 : Int))] (a1) ((Int.tmod a3 (20 : Int)))    0), true), ((IntKind.i64.wrap a3) == a3, true), (dP (Zb3 #[vi a1, vi (Int.tmod a3 (20 : Int))] (a1) ((Int.tmod a3 (20 : Int)))    0), true), ((IntKind.i64.wrap a3) == a3, true), (dP (0 ≤ ((if (60 : Int) < (L0.length : Int) then (60 : Int) else (L0.length : Int))).toNat ∧ ((if (60 : Int) < (L0.length : Int) then (60 : Int) else (L0.length : Int))).toNat ≤ L0.length ∧ ZK (code (Zl eI L0)) (0 + 0 * 1) (Zl eI (L0.take ((if (60 : Int) < (L0.length : Int) then (60 : Int) else (L0.length : Int))).toNat)).length = some (Zl eI (L0.take ((if (60 : Int) < (L0.length : Int) then (60 : Int) else (L0.length : Int))).toNat)) ∧ (((if (60 : Int) < (L0.length : Int) then (60 : Int) else (L0.length : Int))).toNat - 0) * 1 = (Zl eI (L0.take ((if (60 : Int) < (L0.length : Int) then (60 : Int) else (L0.length : Int))).toNat)).length ∧ (L0.take ((if (60 : Int) < (L0.length : Int) then (60 : Int) else (L0.length : Int))).toNat).length = ((if (60 : Int) < (L0.length : Int) then (60 : Int) else (L0.length : Int))).toNat - 0), true), ((if (60 : Int) < (L0.length : Int) then (60 : Int) else (L0.length : Int)) == Int.ofNat ((if (60 : Int) < (L0.length : Int) then (60 : Int) else (L0.length : Int))).toNat, true), (dS 0, true)]) (by kernel_rfl) (Za (Zh (Zhi #[vn, vi a1, vi a1] (a1) (a1)  true N c10  0 rfl (by decide) (by decide))) <| oN <| oN <| Za (ZeG (by first | assumption | rfl | simp_all)) <| Za (Zh (ZaV #[ms eI (L0.take ((if (60 : Int) < (L0.length : Int) then (60 : Int) else (L0.length : Int))).toNat), vi a1, vi a2] ((L0.take ((if (60 : Int) < (L0.length : Int) then (60 : Int) else (L0.length : Int))).toNat)) (a1) (a2)  y6_0 N c6  0 rfl (by decide) (by decide))) <| Za (Zh (Zbq #[ms eI (L0.take ((if (60 : Int) < (L0.length : Int) then (60 : Int) else (L0.length : Int))).toNat), vi a1, vi a2] ((L0.take ((if (60 : Int) < (L0.length : Int) then (60 : Int) else (L0.length : Int))).toNat)) (a1) (a2)  y5_0 N c5  0 rfl (by decide) (by decide))) <| Za (Zh (Zb0 #[vn, vn]    N c4  0 rfl (by decide) (by decide))) <| Za (Zh (Zce #[vi a1, vi (Int.tmod a3 (20 : Int))] (a1) ((Int.tmod a3 (20 : Int)))   N c3  0 rfl (by decide) (by decide))) <| Za (beq_iff_eq.2 (wrap_i64 ltA)) <| Za (Zh (Zct #[vi a1, vi (Int.tmod a3 (20 : Int))] (a1) ((Int.tmod a3 (20 : Int)))   N c2  0 rfl (by decide) (by decide))) <| Za (beq_iff_eq.2 (wrap_i64 ltA)) <| Za (Zh (ZcN (E := eI) (L := L0) (R := (L0.take ((if (60 : Int) < (L0.length : Int) then (60 : Int) else (L0.length : Int))).toNat)) (l := 0) (h := ((if (60 : Int) < (L0.length : Int) then (60 : Int) else (L0.length : Int))).toNat) (size := 1) ltA ltA (by decide) (by simp))) <| oI <| oR Zf) rfl (by decide) (by rfl) rr trivial
            ·
             obtain rfl : y10_0 = false := by simpa using g11
             exact ZcD (r := (.r0 (false) : Zk)) (fu := 4000) (orc := (Zn [(1, false), (2, false), (3, false)] [(0, a3), (2, a3)] [] [] [(0, .ms 0 ((if (60 : Int) < (L0.length : Int) then (60 : Int) else (L0.length : Int))).toNat (L0.take ((if (60 : Int) < (L0.length : Int) then (60 : Int) else (L0.length : Int))).toNat).length (Zl eI (L0.take ((if (60 : Int) < (L0.length : Int) then (60 : Int) else (L0.length : Int))).toNat))), (2, (Zcs (a1) ((Int.tmod a3 (20 : Int)))    0)), (4, (Zcd (a1) ((Int.tmod a3 (20 : Int)))    0)), (5, (Zbz     0)), (6, (Zbp ((L0.take ((if (60 : Int) < (L0.length : Int) then (60 : Int) else (L0.length : Int))).toNat)) (a1) (a2)  y5_0  0)), (7, (ZaU ((L0.take ((if (60 : Int) < (L0.length : Int) then (60 : Int) else (L0.length : Int))).toNat)) (a1) (a2)  y6_0  0)), (8, (Zhh (a1) (a1)  false  0))])) (live := []) (u := vf) (bl := []) (ob := [(dP (ZeS #[vn, vi a1, vi a1] (a1) (a1)  false  0), true), ((decide (a1 > (64 : Int))), false), ((decide (a1 < (1 : Int))), false), ((!(y5_0 == y6_0)), false), (dP (ZaF #[ms eI (L0.take ((if (60 : Int) < (L0.length : Int) then (60 : Int) else (L0.length : Int))).toNat), vi a1, vi a2] ((L0.take ((if (60 : Int) < (L0.length : Int) then (60 : Int) else (L0.length : Int))).toNat)) (a1) (a2)  y6_0  0), true), (dP (Zba #[ms eI (L0.take ((if (60 : Int) < (L0.length : Int) then (60 : Int) else (L0.length : Int))).toNat), vi a1, vi a2] ((L0.take ((if (60 : Int) < (L0.length : Int) then (60 : Int) else (L0.length : Int))).toNat)) (a1) (a2)  y5_0  0), true), (dP (ZaS #[vn, vn]     0), true), (dP (Zbr #[vi a1, vi (Int.tmod a3 (20 : Int))] (a1) ((Int.tmod a3 (20 : Int)))    0), true), ((IntKind.i64.wrap a3) == a3, true), (dP (Zb3 #[vi a1, vi (Int.tmod a3 (20 : Int))] (a1) ((Int.tmod a3 (20 : Int)))    0), true), ((IntKind.i64.wrap a3) == a3, true), (dP (0 ≤ ((if (60 : Int) < (L0.length : Int) then (60 : Int) else (L0.length : Int))).toNat ∧ ((if (60 : Int) < (L0.length : Int) then (60 : Int) else (L0.length : Int))).toNat ≤ L0.length ∧ ZK (code (Zl eI L0)) (0 + 0 * 1) (Zl eI (L0.take ((if (60 : Int) < (L0.length : Int) then (60 : Int) else (L0.length : Int))).toNat)).length = some (Zl eI (L0.take ((if (60 : Int) < (L0.length : Int) then (60 : Int) else (L0.length : Int))).toNat)) ∧ (((if (60 : Int) < (L0.length : Int) then (60 : Int) else (L0.length : Int))).toNat - 0) * 1 = (Zl eI (L0.take ((if (60 : Int) < (L0.length : Int) then (60 : Int) else (L0.length : Int))).toNat)).length ∧ (L0.take ((if (60 : Int) < (L0.length : Int) then (60 : Int) else (L0.length : Int))).toNat).length = ((if (60 : Int) < (L0.length : Int) then (60 : Int) else (L0.length : Int))).toNat - 0), true), ((if (60 : Int) < (L0.length : Int) then (60 : Int) else (L0.length : Int)) == Int.ofNat ((if (60 : Int) < (L0.length : Int) then (60 : Int) else (L0.length : Int))).toNat, true), (dS 0, true)]) (by kernel_rfl) (Za (Zh (Zhi #[vn, vi a1, vi a1] (a1) (a1)  false N c10  0 rfl (by decide) (by decide))) <| oN <| oN <| Za (ZeG (by first | assumption | rfl | simp_all)) <| Za (Zh (ZaV #[ms eI (L0.take ((if (60 : Int) < (L0.length : Int) then (60 : Int) else (L0.length : Int))).toNat), vi a1, vi a2] ((L0.take ((if (60 : Int) < (L0.length : Int) then (60 : Int) else (L0.length : Int))).toNat)) (a1) (a2)  y6_0 N c6  0 rfl (by decide) (by decide))) <| Za (Zh (Zbq #[ms eI (L0.take ((if (60 : Int) < (L0.length : Int) then (60 : Int) else (L0.length : Int))).toNat), vi a1, vi a2] ((L0.take ((if (60 : Int) < (L0.length : Int) then (60 : Int) else (L0.length : Int))).toNat)) (a1) (a2)  y5_0 N c5  0 rfl (by decide) (by decide))) <| Za (Zh (Zb0 #[vn, vn]    N c4  0 rfl (by decide) (by decide))) <| Za (Zh (Zce #[vi a1, vi (Int.tmod a3 (20 : Int))] (a1) ((Int.tmod a3 (20 : Int)))   N c3  0 rfl (by decide) (by decide))) <| Za (beq_iff_eq.2 (wrap_i64 ltA)) <| Za (Zh (Zct #[vi a1, vi (Int.tmod a3 (20 : Int))] (a1) ((Int.tmod a3 (20 : Int)))   N c2  0 rfl (by decide) (by decide))) <| Za (beq_iff_eq.2 (wrap_i64 ltA)) <| Za (Zh (ZcN (E := eI) (L := L0) (R := (L0.take ((if (60 : Int) < (L0.length : Int) then (60 : Int) else (L0.length : Int))).toNat)) (l := 0) (h := ((if (60 : Int) < (L0.length : Int) then (60 : Int) else (L0.length : Int))).toNat) (size := 1) ltA ltA (by decide) (by simp))) <| oI <| oR Zf) rfl (by decide) (by rfl) rr trivial
    | r1 _ _ =>
     exact Zep
   | r1 _ =>
    exact Zep
   | r2 y2_0 y2_1 =>
    refine ZbY (fun z3 c3 => ?_)
    cases z3 with
    | r0 =>
     exact Zep
    | r1 y3_0 y3_1 =>
     refine ZbY (fun z4 c4 => ?_)
     cases z4 with
     | r0 y4_0 =>
      refine ZcC (fun g5 => ?_) (fun g5 => ?_)
      ·
       exact ZcD (r := (.r0 (false) : Zk)) (fu := 4000) (orc := (Zn [(0, true)] [(0, a3), (2, a3)] [] [] [(0, .ms 0 ((if (60 : Int) < (L0.length : Int) then (60 : Int) else (L0.length : Int))).toNat (L0.take ((if (60 : Int) < (L0.length : Int) then (60 : Int) else (L0.length : Int))).toNat).length (Zl eI (L0.take ((if (60 : Int) < (L0.length : Int) then (60 : Int) else (L0.length : Int))).toNat))), (2, (Zb4 (a1) ((Int.tmod a3 (20 : Int)))  y2_0 y2_1  0)), (4, (Zbs (a1) ((Int.tmod a3 (20 : Int)))  y3_0 y3_1  1)), (5, (Za6 (y2_0) (y2_1) (y3_0) (y3_1) (((IntKind.i64.wrap (a1 * (Int.tmod a3 (20 : Int))))).toNat)  y4_0 0 1 2))])) (live := []) (u := vf) (bl := []) (ob := [((!y4_0), true), (dP (Zao #[vs 0 0 y2_1 y2_1, vs 1 0 y3_1 ((IntKind.i64.wrap (a1 * (Int.tmod a3 (20 : Int))))).toNat] (y2_0) (y2_1) (y3_0) (y3_1) (((IntKind.i64.wrap (a1 * (Int.tmod a3 (20 : Int))))).toNat)  y4_0 0 1 2), true), (dS (Zc eI y2_0), true), (dS (Zc eI y3_0), true), (dP (ZaR #[vi a1, vi (Int.tmod a3 (20 : Int))] (a1) ((Int.tmod a3 (20 : Int)))  y3_0 y3_1  1), true), ((IntKind.i64.wrap a3) == a3, true), (dP (Zbf #[vi a1, vi (Int.tmod a3 (20 : Int))] (a1) ((Int.tmod a3 (20 : Int)))  y2_0 y2_1  0), true), ((IntKind.i64.wrap a3) == a3, true), (dP (0 ≤ ((if (60 : Int) < (L0.length : Int) then (60 : Int) else (L0.length : Int))).toNat ∧ ((if (60 : Int) < (L0.length : Int) then (60 : Int) else (L0.length : Int))).toNat ≤ L0.length ∧ ZK (code (Zl eI L0)) (0 + 0 * 1) (Zl eI (L0.take ((if (60 : Int) < (L0.length : Int) then (60 : Int) else (L0.length : Int))).toNat)).length = some (Zl eI (L0.take ((if (60 : Int) < (L0.length : Int) then (60 : Int) else (L0.length : Int))).toNat)) ∧ (((if (60 : Int) < (L0.length : Int) then (60 : Int) else (L0.length : Int))).toNat - 0) * 1 = (Zl eI (L0.take ((if (60 : Int) < (L0.length : Int) then (60 : Int) else (L0.length : Int))).toNat)).length ∧ (L0.take ((if (60 : Int) < (L0.length : Int) then (60 : Int) else (L0.length : Int))).toNat).length = ((if (60 : Int) < (L0.length : Int) then (60 : Int) else (L0.length : Int))).toNat - 0), true), ((if (60 : Int) < (L0.length : Int) then (60 : Int) else (L0.length : Int)) == Int.ofNat ((if (60 : Int) < (L0.length : Int) then (60 : Int) else (L0.length : Int))).toNat, true), (dS 0, true)]) (by kernel_rfl) (Za (ZmL (by first | assumption | simp_all)) <| Za (Zh (Za7 #[vs 0 0 y2_1 y2_1, vs 1 0 y3_1 ((IntKind.i64.wrap (a1 * (Int.tmod a3 (20 : Int))))).toNat] (y2_0) (y2_1) (y3_0) (y3_1) (((IntKind.i64.wrap (a1 * (Int.tmod a3 (20 : Int))))).toNat)  y4_0 N c4 0 1 2 rfl (by decide) (by decide))) <| oR <| oR <| Za (Zh (Zbt #[vi a1, vi (Int.tmod a3 (20 : Int))] (a1) ((Int.tmod a3 (20 : Int)))  y3_0 y3_1 N c3  1 rfl (by decide) (by decide))) <| Za (beq_iff_eq.2 (wrap_i64 ltA)) <| Za (Zh (Zb5 #[vi a1, vi (Int.tmod a3 (20 : Int))] (a1) ((Int.tmod a3 (20 : Int)))  y2_0 y2_1 N c2  0 rfl (by decide) (by decide))) <| Za (beq_iff_eq.2 (wrap_i64 ltA)) <| Za (Zh (ZcN (E := eI) (L := L0) (R := (L0.take ((if (60 : Int) < (L0.length : Int) then (60 : Int) else (L0.length : Int))).toNat)) (l := 0) (h := ((if (60 : Int) < (L0.length : Int) then (60 : Int) else (L0.length : Int))).toNat) (size := 1) ltA ltA (by decide) (by simp))) <| oI <| oR Zf) rfl (by decide) (by rfl) rr trivial
      ·
       refine ZbY (fun z6 c6 => ?_)
       cases z6 with
       | r0 y6_0 =>
        refine ZbY (fun z7 c7 => ?_)
        cases z7 with
        | r0 y7_0 =>
         refine ZcC (fun g8 => ?_) (fun g8 => ?_)
         ·
          exact ZcD (r := (.r0 (false) : Zk)) (fu := 4000) (orc := (Zn [(0, false), (1, true)] [(0, a3), (2, a3)] [] [] [(0, .ms 0 ((if (60 : Int) < (L0.length : Int) then (60 : Int) else (L0.length : Int))).toNat (L0.take ((if (60 : Int) < (L0.length : Int) then (60 : Int) else (L0.length : Int))).toNat).length (Zl eI (L0.take ((if (60 : Int) < (L0.length : Int) then (60 : Int) else (L0.length : Int))).toNat))), (2, (Zb4 (a1) ((Int.tmod a3 (20 : Int)))  y2_0 y2_1  0)), (4, (Zbs (a1) ((Int.tmod a3 (20 : Int)))  y3_0 y3_1  1)), (5, (Za6 (y2_0) (y2_1) (y3_0) (y3_1) (((IntKind.i64.wrap (a1 * (Int.tmod a3 (20 : Int))))).toNat)  y4_0 0 1 2)), (6, (Zbp ((L0.take ((if (60 : Int) < (L0.length : Int) then (60 : Int) else (L0.length : Int))).toNat)) (a1) (a2)  y6_0  2)), (7, (ZaU ((L0.take ((if (60 : Int) < (L0.length : Int) then (60 : Int) else (L0.length : Int))).toNat)) (a1) (a2)  y7_0  2))])) (live := []) (u := vf) (bl := []) (ob := [((!(y6_0 == y7_0)), true), (dP (ZaF #[ms eI (L0.take ((if (60 : Int) < (L0.length : Int) then (60 : Int) else (L0.length : Int))).toNat), vi a1, vi a2] ((L0.take ((if (60 : Int) < (L0.length : Int) then (60 : Int) else (L0.length : Int))).toNat)) (a1) (a2)  y7_0  2), true), (dP (Zba #[ms eI (L0.take ((if (60 : Int) < (L0.length : Int) then (60 : Int) else (L0.length : Int))).toNat), vi a1, vi a2] ((L0.take ((if (60 : Int) < (L0.length : Int) then (60 : Int) else (L0.length : Int))).toNat)) (a1) (a2)  y6_0  2), true), ((!y4_0), false), (dP (Zao #[vs 0 0 y2_1 y2_1, vs 1 0 y3_1 ((IntKind.i64.wrap (a1 * (Int.tmod a3 (20 : Int))))).toNat] (y2_0) (y2_1) (y3_0) (y3_1) (((IntKind.i64.wrap (a1 * (Int.tmod a3 (20 : Int))))).toNat)  y4_0 0 1 2), true), (dS (Zc eI y2_0), true), (dS (Zc eI y3_0), true), (dP (ZaR #[vi a1, vi (Int.tmod a3 (20 : Int))] (a1) ((Int.tmod a3 (20 : Int)))  y3_0 y3_1  1), true), ((IntKind.i64.wrap a3) == a3, true), (dP (Zbf #[vi a1, vi (Int.tmod a3 (20 : Int))] (a1) ((Int.tmod a3 (20 : Int)))  y2_0 y2_1  0), true), ((IntKind.i64.wrap a3) == a3, true), (dP (0 ≤ ((if (60 : Int) < (L0.length : Int) then (60 : Int) else (L0.length : Int))).toNat ∧ ((if (60 : Int) < (L0.length : Int) then (60 : Int) else (L0.length : Int))).toNat ≤ L0.length ∧ ZK (code (Zl eI L0)) (0 + 0 * 1) (Zl eI (L0.take ((if (60 : Int) < (L0.length : Int) then (60 : Int) else (L0.length : Int))).toNat)).length = some (Zl eI (L0.take ((if (60 : Int) < (L0.length : Int) then (60 : Int) else (L0.length : Int))).toNat)) ∧ (((if (60 : Int) < (L0.length : Int) then (60 : Int) else (L0.length : Int))).toNat - 0) * 1 = (Zl eI (L0.take ((if (60 : Int) < (L0.length : Int) then (60 : Int) else (L0.length : Int))).toNat)).length ∧ (L0.take ((if (60 : Int) < (L0.length : Int) then (60 : Int) else (L0.length : Int))).toNat).length = ((if (60 : Int) < (L0.length : Int) then (60 : Int) else (L0.length : Int))).toNat - 0), true), ((if (60 : Int) < (L0.length : Int) then (60 : Int) else (L0.length : Int)) == Int.ofNat ((if (60 : Int) < (L0.length : Int) then (60 : Int) else (L0.length : Int))).toNat, true), (dS 0, true)]) (by kernel_rfl) (Za (ZnK (by first | assumption | rfl | simp_all)) <| Za (Zh (ZaV #[ms eI (L0.take ((if (60 : Int) < (L0.length : Int) then (60 : Int) else (L0.length : Int))).toNat), vi a1, vi a2] ((L0.take ((if (60 : Int) < (L0.length : Int) then (60 : Int) else (L0.length : Int))).toNat)) (a1) (a2)  y7_0 N c7  2 rfl (by decide) (by decide))) <| Za (Zh (Zbq #[ms eI (L0.take ((if (60 : Int) < (L0.length : Int) then (60 : Int) else (L0.length : Int))).toNat), vi a1, vi a2] ((L0.take ((if (60 : Int) < (L0.length : Int) then (60 : Int) else (L0.length : Int))).toNat)) (a1) (a2)  y6_0 N c6  2 rfl (by decide) (by decide))) <| Za (Zfq (by first | assumption | exact Decidable.not_not.1 (by assumption) | simp_all)) <| Za (Zh (Za7 #[vs 0 0 y2_1 y2_1, vs 1 0 y3_1 ((IntKind.i64.wrap (a1 * (Int.tmod a3 (20 : Int))))).toNat] (y2_0) (y2_1) (y3_0) (y3_1) (((IntKind.i64.wrap (a1 * (Int.tmod a3 (20 : Int))))).toNat)  y4_0 N c4 0 1 2 rfl (by decide) (by decide))) <| oR <| oR <| Za (Zh (Zbt #[vi a1, vi (Int.tmod a3 (20 : Int))] (a1) ((Int.tmod a3 (20 : Int)))  y3_0 y3_1 N c3  1 rfl (by decide) (by decide))) <| Za (beq_iff_eq.2 (wrap_i64 ltA)) <| Za (Zh (Zb5 #[vi a1, vi (Int.tmod a3 (20 : Int))] (a1) ((Int.tmod a3 (20 : Int)))  y2_0 y2_1 N c2  0 rfl (by decide) (by decide))) <| Za (beq_iff_eq.2 (wrap_i64 ltA)) <| Za (Zh (ZcN (E := eI) (L := L0) (R := (L0.take ((if (60 : Int) < (L0.length : Int) then (60 : Int) else (L0.length : Int))).toNat)) (l := 0) (h := ((if (60 : Int) < (L0.length : Int) then (60 : Int) else (L0.length : Int))).toNat) (size := 1) ltA ltA (by decide) (by simp))) <| oI <| oR Zf) rfl (by decide) (by rfl) rr trivial
         ·
          refine ZcC (fun g9 => ?_) (fun g9 => ?_)
          ·
           exact ZcD (r := (.r0 (true) : Zk)) (fu := 4000) (orc := (Zn [(0, false), (1, false), (2, true)] [(0, a3), (2, a3)] [] [] [(0, .ms 0 ((if (60 : Int) < (L0.length : Int) then (60 : Int) else (L0.length : Int))).toNat (L0.take ((if (60 : Int) < (L0.length : Int) then (60 : Int) else (L0.length : Int))).toNat).length (Zl eI (L0.take ((if (60 : Int) < (L0.length : Int) then (60 : Int) else (L0.length : Int))).toNat))), (2, (Zb4 (a1) ((Int.tmod a3 (20 : Int)))  y2_0 y2_1  0)), (4, (Zbs (a1) ((Int.tmod a3 (20 : Int)))  y3_0 y3_1  1)), (5, (Za6 (y2_0) (y2_1) (y3_0) (y3_1) (((IntKind.i64.wrap (a1 * (Int.tmod a3 (20 : Int))))).toNat)  y4_0 0 1 2)), (6, (Zbp ((L0.take ((if (60 : Int) < (L0.length : Int) then (60 : Int) else (L0.length : Int))).toNat)) (a1) (a2)  y6_0  2)), (7, (ZaU ((L0.take ((if (60 : Int) < (L0.length : Int) then (60 : Int) else (L0.length : Int))).toNat)) (a1) (a2)  y7_0  2))])) (live := []) (u := vT) (bl := []) (ob := [((decide (a1 < (1 : Int))), true), ((!(y6_0 == y7_0)), false), (dP (ZaF #[ms eI (L0.take ((if (60 : Int) < (L0.length : Int) then (60 : Int) else (L0.length : Int))).toNat), vi a1, vi a2] ((L0.take ((if (60 : Int) < (L0.length : Int) then (60 : Int) else (L0.length : Int))).toNat)) (a1) (a2)  y7_0  2), true), (dP (Zba #[ms eI (L0.take ((if (60 : Int) < (L0.length : Int) then (60 : Int) else (L0.length : Int))).toNat), vi a1, vi a2] ((L0.take ((if (60 : Int) < (L0.length : Int) then (60 : Int) else (L0.length : Int))).toNat)) (a1) (a2)  y6_0  2), true), ((!y4_0), false), (dP (Zao #[vs 0 0 y2_1 y2_1, vs 1 0 y3_1 ((IntKind.i64.wrap (a1 * (Int.tmod a3 (20 : Int))))).toNat] (y2_0) (y2_1) (y3_0) (y3_1) (((IntKind.i64.wrap (a1 * (Int.tmod a3 (20 : Int))))).toNat)  y4_0 0 1 2), true), (dS (Zc eI y2_0), true), (dS (Zc eI y3_0), true), (dP (ZaR #[vi a1, vi (Int.tmod a3 (20 : Int))] (a1) ((Int.tmod a3 (20 : Int)))  y3_0 y3_1  1), true), ((IntKind.i64.wrap a3) == a3, true), (dP (Zbf #[vi a1, vi (Int.tmod a3 (20 : Int))] (a1) ((Int.tmod a3 (20 : Int)))  y2_0 y2_1  0), true), ((IntKind.i64.wrap a3) == a3, true), (dP (0 ≤ ((if (60 : Int) < (L0.length : Int) then (60 : Int) else (L0.length : Int))).toNat ∧ ((if (60 : Int) < (L0.length : Int) then (60 : Int) else (L0.length : Int))).toNat ≤ L0.length ∧ ZK (code (Zl eI L0)) (0 + 0 * 1) (Zl eI (L0.take ((if (60 : Int) < (L0.length : Int) then (60 : Int) else (L0.length : Int))).toNat)).length = some (Zl eI (L0.take ((if (60 : Int) < (L0.length : Int) then (60 : Int) else (L0.length : Int))).toNat)) ∧ (((if (60 : Int) < (L0.length : Int) then (60 : Int) else (L0.length : Int))).toNat - 0) * 1 = (Zl eI (L0.take ((if (60 : Int) < (L0.length : Int) then (60 : Int) else (L0.length : Int))).toNat)).length ∧ (L0.take ((if (60 : Int) < (L0.length : Int) then (60 : Int) else (L0.length : Int))).toNat).length = ((if (60 : Int) < (L0.length : Int) then (60 : Int) else (L0.length : Int))).toNat - 0), true), ((if (60 : Int) < (L0.length : Int) then (60 : Int) else (L0.length : Int)) == Int.ofNat ((if (60 : Int) < (L0.length : Int) then (60 : Int) else (L0.length : Int))).toNat, true), (dS 0, true)]) (by kernel_rfl) (oY <| Za (ZeG (by first | assumption | rfl | simp_all)) <| Za (Zh (ZaV #[ms eI (L0.take ((if (60 : Int) < (L0.length : Int) then (60 : Int) else (L0.length : Int))).toNat), vi a1, vi a2] ((L0.take ((if (60 : Int) < (L0.length : Int) then (60 : Int) else (L0.length : Int))).toNat)) (a1) (a2)  y7_0 N c7  2 rfl (by decide) (by decide))) <| Za (Zh (Zbq #[ms eI (L0.take ((if (60 : Int) < (L0.length : Int) then (60 : Int) else (L0.length : Int))).toNat), vi a1, vi a2] ((L0.take ((if (60 : Int) < (L0.length : Int) then (60 : Int) else (L0.length : Int))).toNat)) (a1) (a2)  y6_0 N c6  2 rfl (by decide) (by decide))) <| Za (Zfq (by first | assumption | exact Decidable.not_not.1 (by assumption) | simp_all)) <| Za (Zh (Za7 #[vs 0 0 y2_1 y2_1, vs 1 0 y3_1 ((IntKind.i64.wrap (a1 * (Int.tmod a3 (20 : Int))))).toNat] (y2_0) (y2_1) (y3_0) (y3_1) (((IntKind.i64.wrap (a1 * (Int.tmod a3 (20 : Int))))).toNat)  y4_0 N c4 0 1 2 rfl (by decide) (by decide))) <| oR <| oR <| Za (Zh (Zbt #[vi a1, vi (Int.tmod a3 (20 : Int))] (a1) ((Int.tmod a3 (20 : Int)))  y3_0 y3_1 N c3  1 rfl (by decide) (by decide))) <| Za (beq_iff_eq.2 (wrap_i64 ltA)) <| Za (Zh (Zb5 #[vi a1, vi (Int.tmod a3 (20 : Int))] (a1) ((Int.tmod a3 (20 : Int)))  y2_0 y2_1 N c2  0 rfl (by decide) (by decide))) <| Za (beq_iff_eq.2 (wrap_i64 ltA)) <| Za (Zh (ZcN (E := eI) (L := L0) (R := (L0.take ((if (60 : Int) < (L0.length : Int) then (60 : Int) else (L0.length : Int))).toNat)) (l := 0) (h := ((if (60 : Int) < (L0.length : Int) then (60 : Int) else (L0.length : Int))).toNat) (size := 1) ltA ltA (by decide) (by simp))) <| oI <| oR Zf) rfl (by decide) (by rfl) rr trivial
          ·
           refine ZcC (fun g10 => ?_) (fun g10 => ?_)
           ·
            exact ZcD (r := (.r0 (true) : Zk)) (fu := 4000) (orc := (Zn [(0, false), (1, false), (2, false), (3, true)] [(0, a3), (2, a3)] [] [] [(0, .ms 0 ((if (60 : Int) < (L0.length : Int) then (60 : Int) else (L0.length : Int))).toNat (L0.take ((if (60 : Int) < (L0.length : Int) then (60 : Int) else (L0.length : Int))).toNat).length (Zl eI (L0.take ((if (60 : Int) < (L0.length : Int) then (60 : Int) else (L0.length : Int))).toNat))), (2, (Zb4 (a1) ((Int.tmod a3 (20 : Int)))  y2_0 y2_1  0)), (4, (Zbs (a1) ((Int.tmod a3 (20 : Int)))  y3_0 y3_1  1)), (5, (Za6 (y2_0) (y2_1) (y3_0) (y3_1) (((IntKind.i64.wrap (a1 * (Int.tmod a3 (20 : Int))))).toNat)  y4_0 0 1 2)), (6, (Zbp ((L0.take ((if (60 : Int) < (L0.length : Int) then (60 : Int) else (L0.length : Int))).toNat)) (a1) (a2)  y6_0  2)), (7, (ZaU ((L0.take ((if (60 : Int) < (L0.length : Int) then (60 : Int) else (L0.length : Int))).toNat)) (a1) (a2)  y7_0  2))])) (live := []) (u := vT) (bl := []) (ob := [((decide (a1 > (64 : Int))), true), ((decide (a1 < (1 : Int))), false), ((!(y6_0 == y7_0)), false), (dP (ZaF #[ms eI (L0.take ((if (60 : Int) < (L0.length : Int) then (60 : Int) else (L0.length : Int))).toNat), vi a1, vi a2] ((L0.take ((if (60 : Int) < (L0.length : Int) then (60 : Int) else (L0.length : Int))).toNat)) (a1) (a2)  y7_0  2), true), (dP (Zba #[ms eI (L0.take ((if (60 : Int) < (L0.length : Int) then (60 : Int) else (L0.length : Int))).toNat), vi a1, vi a2] ((L0.take ((if (60 : Int) < (L0.length : Int) then (60 : Int) else (L0.length : Int))).toNat)) (a1) (a2)  y6_0  2), true), ((!y4_0), false), (dP (Zao #[vs 0 0 y2_1 y2_1, vs 1 0 y3_1 ((IntKind.i64.wrap (a1 * (Int.tmod a3 (20 : Int))))).toNat] (y2_0) (y2_1) (y3_0) (y3_1) (((IntKind.i64.wrap (a1 * (Int.tmod a3 (20 : Int))))).toNat)  y4_0 0 1 2), true), (dS (Zc eI y2_0), true), (dS (Zc eI y3_0), true), (dP (ZaR #[vi a1, vi (Int.tmod a3 (20 : Int))] (a1) ((Int.tmod a3 (20 : Int)))  y3_0 y3_1  1), true), ((IntKind.i64.wrap a3) == a3, true), (dP (Zbf #[vi a1, vi (Int.tmod a3 (20 : Int))] (a1) ((Int.tmod a3 (20 : Int)))  y2_0 y2_1  0), true), ((IntKind.i64.wrap a3) == a3, true), (dP (0 ≤ ((if (60 : Int) < (L0.length : Int) then (60 : Int) else (L0.length : Int))).toNat ∧ ((if (60 : Int) < (L0.length : Int) then (60 : Int) else (L0.length : Int))).toNat ≤ L0.length ∧ ZK (code (Zl eI L0)) (0 + 0 * 1) (Zl eI (L0.take ((if (60 : Int) < (L0.length : Int) then (60 : Int) else (L0.length : Int))).toNat)).length = some (Zl eI (L0.take ((if (60 : Int) < (L0.length : Int) then (60 : Int) else (L0.length : Int))).toNat)) ∧ (((if (60 : Int) < (L0.length : Int) then (60 : Int) else (L0.length : Int))).toNat - 0) * 1 = (Zl eI (L0.take ((if (60 : Int) < (L0.length : Int) then (60 : Int) else (L0.length : Int))).toNat)).length ∧ (L0.take ((if (60 : Int) < (L0.length : Int) then (60 : Int) else (L0.length : Int))).toNat).length = ((if (60 : Int) < (L0.length : Int) then (60 : Int) else (L0.length : Int))).toNat - 0), true), ((if (60 : Int) < (L0.length : Int) then (60 : Int) else (L0.length : Int)) == Int.ofNat ((if (60 : Int) < (L0.length : Int) then (60 : Int) else (L0.length : Int))).toNat, true), (dS 0, true)]) (by kernel_rfl) (oY <| oN <| Za (ZeG (by first | assumption | rfl | simp_all)) <| Za (Zh (ZaV #[ms eI (L0.take ((if (60 : Int) < (L0.length : Int) then (60 : Int) else (L0.length : Int))).toNat), vi a1, vi a2] ((L0.take ((if (60 : Int) < (L0.length : Int) then (60 : Int) else (L0.length : Int))).toNat)) (a1) (a2)  y7_0 N c7  2 rfl (by decide) (by decide))) <| Za (Zh (Zbq #[ms eI (L0.take ((if (60 : Int) < (L0.length : Int) then (60 : Int) else (L0.length : Int))).toNat), vi a1, vi a2] ((L0.take ((if (60 : Int) < (L0.length : Int) then (60 : Int) else (L0.length : Int))).toNat)) (a1) (a2)  y6_0 N c6  2 rfl (by decide) (by decide))) <| Za (Zfq (by first | assumption | exact Decidable.not_not.1 (by assumption) | simp_all)) <| Za (Zh (Za7 #[vs 0 0 y2_1 y2_1, vs 1 0 y3_1 ((IntKind.i64.wrap (a1 * (Int.tmod a3 (20 : Int))))).toNat] (y2_0) (y2_1) (y3_0) (y3_1) (((IntKind.i64.wrap (a1 * (Int.tmod a3 (20 : Int))))).toNat)  y4_0 N c4 0 1 2 rfl (by decide) (by decide))) <| oR <| oR <| Za (Zh (Zbt #[vi a1, vi (Int.tmod a3 (20 : Int))] (a1) ((Int.tmod a3 (20 : Int)))  y3_0 y3_1 N c3  1 rfl (by decide) (by decide))) <| Za (beq_iff_eq.2 (wrap_i64 ltA)) <| Za (Zh (Zb5 #[vi a1, vi (Int.tmod a3 (20 : Int))] (a1) ((Int.tmod a3 (20 : Int)))  y2_0 y2_1 N c2  0 rfl (by decide) (by decide))) <| Za (beq_iff_eq.2 (wrap_i64 ltA)) <| Za (Zh (ZcN (E := eI) (L := L0) (R := (L0.take ((if (60 : Int) < (L0.length : Int) then (60 : Int) else (L0.length : Int))).toNat)) (l := 0) (h := ((if (60 : Int) < (L0.length : Int) then (60 : Int) else (L0.length : Int))).toNat) (size := 1) ltA ltA (by decide) (by simp))) <| oI <| oR Zf) rfl (by decide) (by rfl) rr trivial
           ·
            refine ZbY (fun z11 c11 => ?_)
            cases z11 with
            | r0 y11_0 =>
             refine ZcC (fun g12 => ?_) (fun g12 => ?_)
             ·
              subst g12
              exact ZcD (r := (.r0 (true) : Zk)) (fu := 4000) (orc := (Zn [(0, false), (1, false), (2, false), (3, false)] [(0, a3), (2, a3)] [] [] [(0, .ms 0 ((if (60 : Int) < (L0.length : Int) then (60 : Int) else (L0.length : Int))).toNat (L0.take ((if (60 : Int) < (L0.length : Int) then (60 : Int) else (L0.length : Int))).toNat).length (Zl eI (L0.take ((if (60 : Int) < (L0.length : Int) then (60 : Int) else (L0.length : Int))).toNat))), (2, (Zb4 (a1) ((Int.tmod a3 (20 : Int)))  y2_0 y2_1  0)), (4, (Zbs (a1) ((Int.tmod a3 (20 : Int)))  y3_0 y3_1  1)), (5, (Za6 (y2_0) (y2_1) (y3_0) (y3_1) (((IntKind.i64.wrap (a1 * (Int.tmod a3 (20 : Int))))).toNat)  y4_0 0 1 2)), (6, (Zbp ((L0.take ((if (60 : Int) < (L0.length : Int) then (60 : Int) else (L0.length : Int))).toNat)) (a1) (a2)  y6_0  2)), (7, (ZaU ((L0.take ((if (60 : Int) < (L0.length : Int) then (60 : Int) else (L0.length : Int))).toNat)) (a1) (a2)  y7_0  2)), (8, (Zhl (y2_0) (y2_1) (a1) (a1)  true 0 2))])) (live := []) (u := vT) (bl := []) (ob := [(dP (ZeU #[vs 0 0 y2_1 y2_1, vi a1, vi a1] (y2_0) (y2_1) (a1) (a1)  true 0 2), true), (dS (Zc eI y2_0), true), ((decide (a1 > (64 : Int))), false), ((decide (a1 < (1 : Int))), false), ((!(y6_0 == y7_0)), false), (dP (ZaF #[ms eI (L0.take ((if (60 : Int) < (L0.length : Int) then (60 : Int) else (L0.length : Int))).toNat), vi a1, vi a2] ((L0.take ((if (60 : Int) < (L0.length : Int) then (60 : Int) else (L0.length : Int))).toNat)) (a1) (a2)  y7_0  2), true), (dP (Zba #[ms eI (L0.take ((if (60 : Int) < (L0.length : Int) then (60 : Int) else (L0.length : Int))).toNat), vi a1, vi a2] ((L0.take ((if (60 : Int) < (L0.length : Int) then (60 : Int) else (L0.length : Int))).toNat)) (a1) (a2)  y6_0  2), true), ((!y4_0), false), (dP (Zao #[vs 0 0 y2_1 y2_1, vs 1 0 y3_1 ((IntKind.i64.wrap (a1 * (Int.tmod a3 (20 : Int))))).toNat] (y2_0) (y2_1) (y3_0) (y3_1) (((IntKind.i64.wrap (a1 * (Int.tmod a3 (20 : Int))))).toNat)  y4_0 0 1 2), true), (dS (Zc eI y2_0), true), (dS (Zc eI y3_0), true), (dP (ZaR #[vi a1, vi (Int.tmod a3 (20 : Int))] (a1) ((Int.tmod a3 (20 : Int)))  y3_0 y3_1  1), true), ((IntKind.i64.wrap a3) == a3, true), (dP (Zbf #[vi a1, vi (Int.tmod a3 (20 : Int))] (a1) ((Int.tmod a3 (20 : Int)))  y2_0 y2_1  0), true), ((IntKind.i64.wrap a3) == a3, true), (dP (0 ≤ ((if (60 : Int) < (L0.length : Int) then (60 : Int) else (L0.length : Int))).toNat ∧ ((if (60 : Int) < (L0.length : Int) then (60 : Int) else (L0.length : Int))).toNat ≤ L0.length ∧ ZK (code (Zl eI L0)) (0 + 0 * 1) (Zl eI (L0.take ((if (60 : Int) < (L0.length : Int) then (60 : Int) else (L0.length : Int))).toNat)).length = some (Zl eI (L0.take ((if (60 : Int) < (L0.length : Int) then (60 : Int) else (L0.length : Int))).toNat)) ∧ (((if (60 : Int) < (L0.length : Int) then (60 : Int) else (L0.length : Int))).toNat - 0) * 1 = (Zl eI (L0.take ((if (60 : Int) < (L0.length : Int) then (60 : Int) else (L0.length : Int))).toNat)).length ∧ (L0.take ((if (60 : Int) < (L0.length : Int) then (60 : Int) else (L0.length : Int))).toNat).length = ((if (60 : Int) < (L0.length : Int) then (60 : Int) else (L0.length : Int))).toNat - 0), true), ((if (60 : Int) < (L0.length : Int) then (60 : Int) else (L0.length : Int)) == Int.ofNat ((if (60 : Int) < (L0.length : Int) then (60 : Int) else (L0.length : Int))).toNat, true), (dS 0, true)]) (by kernel_rfl) (Za (Zh (Zhm #[vs 0 0 y2_1 y2_1, vi a1, vi a1] (y2_0) (y2_1) (a1) (a1)  true N c11 0 2 rfl (by decide) (by decide))) <| oR <| oN <| oN <| Za (ZeG (by first | assumption | rfl | simp_all)) <| Za (Zh (ZaV #[ms eI (L0.take ((if (60 : Int) < (L0.length : Int) then (60 : Int) else (L0.length : Int))).toNat), vi a1, vi a2] ((L0.take ((if (60 : Int) < (L0.length : Int) then (60 : Int) else (L0.length : Int))).toNat)) (a1) (a2)  y7_0 N c7  2 rfl (by decide) (by decide))) <| Za (Zh (Zbq #[ms eI (L0.take ((if (60 : Int) < (L0.length : Int) then (60 : Int) else (L0.length : Int))).toNat), vi a1, vi a2] ((L0.take ((if (60 : Int) < (L0.length : Int) then (60 : Int) else (L0.length : Int))).toNat)) (a1) (a2)  y6_0 N c6  2 rfl (by decide) (by decide))) <| Za (Zfq (by first | assumption | exact Decidable.not_not.1 (by assumption) | simp_all)) <| Za (Zh (Za7 #[vs 0 0 y2_1 y2_1, vs 1 0 y3_1 ((IntKind.i64.wrap (a1 * (Int.tmod a3 (20 : Int))))).toNat] (y2_0) (y2_1) (y3_0) (y3_1) (((IntKind.i64.wrap (a1 * (Int.tmod a3 (20 : Int))))).toNat)  y4_0 N c4 0 1 2 rfl (by decide) (by decide))) <| oR <| oR <| Za (Zh (Zbt #[vi a1, vi (Int.tmod a3 (20 : Int))] (a1) ((Int.tmod a3 (20 : Int)))  y3_0 y3_1 N c3  1 rfl (by decide) (by decide))) <| Za (beq_iff_eq.2 (wrap_i64 ltA)) <| Za (Zh (Zb5 #[vi a1, vi (Int.tmod a3 (20 : Int))] (a1) ((Int.tmod a3 (20 : Int)))  y2_0 y2_1 N c2  0 rfl (by decide) (by decide))) <| Za (beq_iff_eq.2 (wrap_i64 ltA)) <| Za (Zh (ZcN (E := eI) (L := L0) (R := (L0.take ((if (60 : Int) < (L0.length : Int) then (60 : Int) else (L0.length : Int))).toNat)) (l := 0) (h := ((if (60 : Int) < (L0.length : Int) then (60 : Int) else (L0.length : Int))).toNat) (size := 1) ltA ltA (by decide) (by simp))) <| oI <| oR Zf) rfl (by decide) (by rfl) rr trivial
             ·
              obtain rfl : y11_0 = false := by simpa using g12
              exact ZcD (r := (.r0 (false) : Zk)) (fu := 4000) (orc := (Zn [(0, false), (1, false), (2, false), (3, false)] [(0, a3), (2, a3)] [] [] [(0, .ms 0 ((if (60 : Int) < (L0.length : Int) then (60 : Int) else (L0.length : Int))).toNat (L0.take ((if (60 : Int) < (L0.length : Int) then (60 : Int) else (L0.length : Int))).toNat).length (Zl eI (L0.take ((if (60 : Int) < (L0.length : Int) then (60 : Int) else (L0.length : Int))).toNat))), (2, (Zb4 (a1) ((Int.tmod a3 (20 : Int)))  y2_0 y2_1  0)), (4, (Zbs (a1) ((Int.tmod a3 (20 : Int)))  y3_0 y3_1  1)), (5, (Za6 (y2_0) (y2_1) (y3_0) (y3_1) (((IntKind.i64.wrap (a1 * (Int.tmod a3 (20 : Int))))).toNat)  y4_0 0 1 2)), (6, (Zbp ((L0.take ((if (60 : Int) < (L0.length : Int) then (60 : Int) else (L0.length : Int))).toNat)) (a1) (a2)  y6_0  2)), (7, (ZaU ((L0.take ((if (60 : Int) < (L0.length : Int) then (60 : Int) else (L0.length : Int))).toNat)) (a1) (a2)  y7_0  2)), (8, (Zhl (y2_0) (y2_1) (a1) (a1)  false 0 2))])) (live := []) (u := vf) (bl := []) (ob := [(dP (ZeU #[vs 0 0 y2_1 y2_1, vi a1, vi a1] (y2_0) (y2_1) (a1) (a1)  false 0 2), true), (dS (Zc eI y2_0), true), ((decide (a1 > (64 : Int))), false), ((decide (a1 < (1 : Int))), false), ((!(y6_0 == y7_0)), false), (dP (ZaF #[ms eI (L0.take ((if (60 : Int) < (L0.length : Int) then (60 : Int) else (L0.length : Int))).toNat), vi a1, vi a2] ((L0.take ((if (60 : Int) < (L0.length : Int) then (60 : Int) else (L0.length : Int))).toNat)) (a1) (a2)  y7_0  2), true), (dP (Zba #[ms eI (L0.take ((if (60 : Int) < (L0.length : Int) then (60 : Int) else (L0.length : Int))).toNat), vi a1, vi a2] ((L0.take ((if (60 : Int) < (L0.length : Int) then (60 : Int) else (L0.length : Int))).toNat)) (a1) (a2)  y6_0  2), true), ((!y4_0), false), (dP (Zao #[vs 0 0 y2_1 y2_1, vs 1 0 y3_1 ((IntKind.i64.wrap (a1 * (Int.tmod a3 (20 : Int))))).toNat] (y2_0) (y2_1) (y3_0) (y3_1) (((IntKind.i64.wrap (a1 * (Int.tmod a3 (20 : Int))))).toNat)  y4_0 0 1 2), true), (dS (Zc eI y2_0), true), (dS (Zc eI y3_0), true), (dP (ZaR #[vi a1, vi (Int.tmod a3 (20 : Int))] (a1) ((Int.tmod a3 (20 : Int)))  y3_0 y3_1  1), true), ((IntKind.i64.wrap a3) == a3, true), (dP (Zbf #[vi a1, vi (Int.tmod a3 (20 : Int))] (a1) ((Int.tmod a3 (20 : Int)))  y2_0 y2_1  0), true), ((IntKind.i64.wrap a3) == a3, true), (dP (0 ≤ ((if (60 : Int) < (L0.length : Int) then (60 : Int) else (L0.length : Int))).toNat ∧ ((if (60 : Int) < (L0.length : Int) then (60 : Int) else (L0.length : Int))).toNat ≤ L0.length ∧ ZK (code (Zl eI L0)) (0 + 0 * 1) (Zl eI (L0.take ((if (60 : Int) < (L0.length : Int) then (60 : Int) else (L0.length : Int))).toNat)).length = some (Zl eI (L0.take ((if (60 : Int) < (L0.length : Int) then (60 : Int) else (L0.length : Int))).toNat)) ∧ (((if (60 : Int) < (L0.length : Int) then (60 : Int) else (L0.length : Int))).toNat - 0) * 1 = (Zl eI (L0.take ((if (60 : Int) < (L0.length : Int) then (60 : Int) else (L0.length : Int))).toNat)).length ∧ (L0.take ((if (60 : Int) < (L0.length : Int) then (60 : Int) else (L0.length : Int))).toNat).length = ((if (60 : Int) < (L0.length : Int) then (60 : Int) else (L0.length : Int))).toNat - 0), true), ((if (60 : Int) < (L0.length : Int) then (60 : Int) else (L0.length : Int)) == Int.ofNat ((if (60 : Int) < (L0.length : Int) then (60 : Int) else (L0.length : Int))).toNat, true), (dS 0, true)]) (by kernel_rfl) (Za (Zh (Zhm #[vs 0 0 y2_1 y2_1, vi a1, vi a1] (y2_0) (y2_1) (a1) (a1)  false N c11 0 2 rfl (by decide) (by decide))) <| oR <| oN <| oN <| Za (ZeG (by first | assumption | rfl | simp_all)) <| Za (Zh (ZaV #[ms eI (L0.take ((if (60 : Int) < (L0.length : Int) then (60 : Int) else (L0.length : Int))).toNat), vi a1, vi a2] ((L0.take ((if (60 : Int) < (L0.length : Int) then (60 : Int) else (L0.length : Int))).toNat)) (a1) (a2)  y7_0 N c7  2 rfl (by decide) (by decide))) <| Za (Zh (Zbq #[ms eI (L0.take ((if (60 : Int) < (L0.length : Int) then (60 : Int) else (L0.length : Int))).toNat), vi a1, vi a2] ((L0.take ((if (60 : Int) < (L0.length : Int) then (60 : Int) else (L0.length : Int))).toNat)) (a1) (a2)  y6_0 N c6  2 rfl (by decide) (by decide))) <| Za (Zfq (by first | assumption | exact Decidable.not_not.1 (by assumption) | simp_all)) <| Za (Zh (Za7 #[vs 0 0 y2_1 y2_1, vs 1 0 y3_1 ((IntKind.i64.wrap (a1 * (Int.tmod a3 (20 : Int))))).toNat] (y2_0) (y2_1) (y3_0) (y3_1) (((IntKind.i64.wrap (a1 * (Int.tmod a3 (20 : Int))))).toNat)  y4_0 N c4 0 1 2 rfl (by decide) (by decide))) <| oR <| oR <| Za (Zh (Zbt #[vi a1, vi (Int.tmod a3 (20 : Int))] (a1) ((Int.tmod a3 (20 : Int)))  y3_0 y3_1 N c3  1 rfl (by decide) (by decide))) <| Za (beq_iff_eq.2 (wrap_i64 ltA)) <| Za (Zh (Zb5 #[vi a1, vi (Int.tmod a3 (20 : Int))] (a1) ((Int.tmod a3 (20 : Int)))  y2_0 y2_1 N c2  0 rfl (by decide) (by decide))) <| Za (beq_iff_eq.2 (wrap_i64 ltA)) <| Za (Zh (ZcN (E := eI) (L := L0) (R := (L0.take ((if (60 : Int) < (L0.length : Int) then (60 : Int) else (L0.length : Int))).toNat)) (l := 0) (h := ((if (60 : Int) < (L0.length : Int) then (60 : Int) else (L0.length : Int))).toNat) (size := 1) ltA ltA (by decide) (by simp))) <| oI <| oR Zf) rfl (by decide) (by rfl) rr trivial
  ·
   exact Zep
 ·
  exact Zep

theorem ZfL (L0 : List Int) (a1 a2 a3 : Int) (N : Nat) (r : Zk) (h : ZbG L0 a1 a2 a3 N = some r) : LSpec Tryz.prog 3 #[ms eI L0, vi a1, vi a2, Value.int .u8 a3] [] (Ze6 L0 a1 a2 a3 r) (ZdY L0 a1 a2 a3 r) :=
 Zod Zds Tryz.func3 (by kernel_rfl) (by kernel_rfl) (fun r => by cases r <;> exact Zac _ rfl) (Zg9 L0 a1 a2 a3 N) h

end Ev
end Go.Proofs.YtgbiifdcabmffaaGreat
/- Plain lemmas: machines step by step, lists by their places. -/
namespace Go.Proofs.YtgbiifdcabmffaaGreat
open Go.RowKit
namespace Ev
section
variable {X R : Type} {step : X → Option (X ⊕ R)} {n : Nat} {x y : X} {r : R}
theorem Zap (h : step x = some (.inl y)) : Zam step (n + 1) x = Zam step n y := by simp [Zam, h]
theorem Za8 (h : step x = some (.inr r)) : Zam step (n + 1) x = some r := by simp [Zam, h]
end
section
variable {α : Type}
theorem Zjp {L : List α} {i : Nat} {v d : α} (h : i < L.length) : (L.set i v).getD i d = v := by simp [h]
theorem ZkZ {L : List α} {i j : Nat} {v d : α} (h : i ≠ j) : (L.set i v).getD j d = L.getD j d := by simp [List.getElem?_set_ne h]
theorem Zh9 {L : List α} {i j : Nat} {v d : α} (h : i < L.length) : (L.set i v).getD j d = if j = i then v else L.getD j d := by
 by_cases e : j = i
 ·subst e; rw [if_pos rfl, Zjp h]
 ·rw [if_neg e, ZkZ (fun h => e h.symm)]
theorem Zky {n i : Nat} {v d : α} (h : i < n) : (List.replicate n v).getD i d = v := by simp [h]
theorem ZnE {L M : List α} (d : α) (hl : L.length = M.length) (h : ∀ i, i < L.length → L.getD i d = M.getD i d) : L = M := by
 apply List.ext_getElem hl
 intro i h1 h2
 have := h i h1
 rw [List.getD_eq_getElem?_getD, List.getD_eq_getElem?_getD, List.getElem?_eq_getElem h1, List.getElem?_eq_getElem h2] at this
 exact this
end
theorem Zb {α : Type} {c : Prop} [Decidable c] {a b r : α} (h : c) (e : a = r) : (if c then a else b) = r := by rw [if_pos h]; exact e
theorem Zr {α : Type} {c : Prop} [Decidable c] {a b r : α} (h : ¬ c) (e : b = r) : (if c then a else b) = r := by rw [if_neg h]; exact e
theorem Zbc {α β : Type} {o : Option α} {a : α} {k : α → Option β} {r : Option β} (h : o = some a) (e : k a = r) : o.bind k = r := by rw [h]; exact e
theorem w64 {x : Int} (h1 : -9223372036854775808 ≤ x) (h2 : x ≤ 9223372036854775807) : IntKind.i64.wrap x = x := wrap_i64 ⟨h1, h2⟩
end Ev
end Go.Proofs.YtgbiifdcabmffaaGreat
/- Ze7 picks, by counts: plain. -/
namespace Go.Proofs.YtgbiifdcabmffaaGreat
open Go.RowKit
namespace Ev
namespace Fp
set_option linter.unusedVariables false
set_option linter.unusedSimpArgs false
def oc (p : List Int) (t : Int) : Nat → Nat
  | 0 => 0
  | n + 1 => oc p t n + (if p.getD n 0 = t then 1 else 0)
theorem ZgK (p : List Int) (t : Int) {a : Nat} : ∀ {b : Nat}, a ≤ b → oc p t a ≤ oc p t b
  | 0, h => by obtain rfl : a = 0 := by omega
               exact Nat.le_refl _
  | b + 1, h => by
    by_cases e : a = b + 1
    · subst e; exact Nat.le_refl _
    · exact Nat.le_trans (ZgK p t (b := b) (by omega)) (Nat.le_add_right _ _)
theorem Zkz (p : List Int) (t : Int) {a : Nat} : ∀ {b : Nat}, a ≤ b → (oc p t a < oc p t b ↔ ∃ j, a ≤ j ∧ j < b ∧ p.getD j 0 = t)
  | 0, h => ⟨fun q => by obtain rfl : a = 0 := by omega
                         exact absurd q (Nat.lt_irrefl _), fun ⟨j, _, h2, _⟩ => by omega⟩
  | b + 1, h => by
    by_cases e : a = b + 1
    · subst e; exact ⟨fun q => absurd q (Nat.lt_irrefl _), fun ⟨j, h1, h2, _⟩ => by omega⟩
    · have ih := Zkz p t (a := a) (b := b) (by omega)
      have hm := ZgK p t (a := a) (b := b) (by omega)
      have hs : oc p t (b + 1) = oc p t b + (if p.getD b 0 = t then 1 else 0) := rfl
      by_cases ht : p.getD b 0 = t
      · rw [hs, if_pos ht]
        exact ⟨fun _ => ⟨b, by omega, by omega, ht⟩, fun _ => by omega⟩
      · rw [hs, if_neg ht, Nat.add_zero, ih]
        constructor
        · rintro ⟨j, h1, h2, h3⟩; exact ⟨j, h1, by omega, h3⟩
        · rintro ⟨j, h1, h2, h3⟩
          have : j ≠ b := fun e => ht (e ▸ h3)
          exact ⟨j, h1, by omega, h3⟩
def nz (f : Nat → Nat) : Nat → Nat
  | 0 => 0
  | T + 1 => nz f T + (if f T = 0 then 0 else 1)
theorem ZgL (f : Nat → Nat) : ∀ T, nz f T ≤ T
  | 0 => Nat.le_refl _
  | T + 1 => by
    have := ZgL f T
    simp only [nz]; split <;> omega
theorem ZmU (f : Nat → Nat) : ∀ T, (nz f T = T ↔ ∀ t, t < T → f t ≠ 0)
  | 0 => ⟨fun _ t h => by omega, fun _ => rfl⟩
  | T + 1 => by
    have ih := ZmU f T
    have hl := ZgL f T
    simp only [nz]
    constructor
    · intro h t ht
      by_cases h0 : f T = 0
      · rw [if_pos h0] at h; omega
      · rw [if_neg h0] at h
        by_cases e : t = T
        · subst e; exact h0
        · exact ih.1 (by omega) t (by omega)
    · intro h
      rw [if_neg (h T (by omega)), ih.2 fun t ht => h t (by omega)]
theorem Zin (f g : Nat → Nat) : ∀ T, (∀ t, t < T → f t = g t) → nz f T = nz g T
  | 0, _ => rfl
  | T + 1, h => by simp only [nz, Zin f g T (fun t ht => h t (by omega)), h T (by omega)]
theorem Zmp {f g : Nat → Nat} {t0 : Nat} (h0 : g t0 = f t0 + 1) (h : ∀ t, t ≠ t0 → g t = f t) : ∀ T, t0 < T → nz g T = nz f T + (if f t0 = 0 then 1 else 0)
  | 0, ht => by omega
  | T + 1, ht => by
    simp only [nz]
    by_cases e : T = t0
    · subst e
      rw [Zin g f T fun t q => h t (by omega), h0, if_neg (by omega)]
      by_cases z : f T = 0
      · simp only [z, if_true]
      · simp only [z, if_false]
    · rw [Zmp h0 h T (by omega), h T e]; omega

def cnt (L : List Int) (a b : Nat) (i : Nat) : Nat := oc L (i : Int) b - oc L (i : Int) a
def Win (L : List Int) (T i K : Nat) : Prop := ∀ t, t < T → ∃ j, i ≤ j ∧ j < i + K ∧ L.getD j 0 = (t : Int)
def Ze7 (L : List Int) (T K : Nat) : Prop := ∀ i, i + K ≤ L.length → Win L T i K
theorem ZnM (p : List Int) (t : Int) : ∀ n, oc p t n ≤ n
  | 0 => Nat.le_refl _
  | n + 1 => by
    have := ZnM p t n
    simp only [oc]; split <;> omega
theorem ZnN (p : List Int) (t : Int) (n : Nat) : oc p t (n + 1) = oc p t n + (if p.getD n 0 = t then 1 else 0) := rfl
theorem Zio (L : List Int) {a n : Nat} (h : a ≤ n) (i : Nat) : cnt L a (n + 1) i = cnt L a n i + (if L.getD n 0 = (i : Int) then 1 else 0) := by
  have := ZgK L (i : Int) h
  unfold cnt; rw [ZnN]; omega
theorem ZfM (L : List Int) {a n : Nat} (h : a < n) (i : Nat) : cnt L a n i = cnt L (a + 1) n i + (if L.getD a 0 = (i : Int) then 1 else 0) := by
  have := ZgK L (i : Int) (show a + 1 ≤ n from h)
  unfold cnt; rw [ZnN] at *; omega
theorem ZmV (L : List Int) (a n i : Nat) : cnt L a n i ≤ n := by
  have := ZnM L (i : Int) n
  unfold cnt; omega
theorem ZcY (L : List Int) (a i : Nat) : cnt L a 0 i = 0 := by
  unfold cnt
  show 0 - _ = 0
  omega
theorem Zlw (L : List Int) (T i K : Nat) : Win L T i K ↔ nz (cnt L i (i + K)) T = T := by
  rw [ZmU]
  constructor
  · intro h t ht
    have := (Zkz L (t : Int) (a := i) (b := i + K) (by omega)).2 (h t ht)
    unfold cnt; omega
  · intro h t ht
    exact (Zkz L (t : Int) (a := i) (b := i + K) (by omega)).1 (by have := h t ht; unfold cnt at this; omega)
structure Row (L : List Int) (T a b : Nat) (F : List Int) (m : Nat) : Prop where
  len : F.length = 64
  at_ : ∀ i, i < T → F.getD i 0 = ((cnt L a b i : Nat) : Int)
  met : m = nz (cnt L a b) T
theorem idx {x : Int} {T : Nat} (h0 : 0 ≤ x) (h1 : x < (T : Int)) : ∃ i : Nat, x.toNat = i ∧ x = (i : Int) ∧ i < T := ⟨x.toNat, rfl, by omega, by omega⟩
theorem ZgM {L : List Int} {T a n : Nat} {F : List Int} {m : Nat} (h : Row L T a n F m) (han : a ≤ n) (hx : ¬ (0 ≤ L.getD n 0 ∧ L.getD n 0 < (T : Int))) : Row L T a (n + 1) F m := by
  have e : ∀ i, i < T → cnt L a (n + 1) i = cnt L a n i := fun i hi => by
    rw [Zio L han i, if_neg (fun q => hx ⟨by omega, by omega⟩)]; rfl
  exact ⟨h.len, fun i hi => by rw [e i hi]; exact h.at_ i hi, by rw [h.met]; exact Zin _ _ T fun t ht => (e t ht).symm⟩
theorem ZmW {L : List Int} {T a n : Nat} {F : List Int} {m i0 : Nat} (h : Row L T a n F m) (hT : T ≤ 64) (han : a ≤ n) (hn : n ≤ 100000) (hi : i0 < T) (hx : L.getD n 0 = (i0 : Int)) : IntKind.i64.wrap (F.getD i0 0 + 1) = ((cnt L a n i0 + 1 : Nat) : Int) ∧ Row L T a (n + 1) (F.set i0 (IntKind.i64.wrap (F.getD i0 0 + 1))) (m + (if cnt L a n i0 = 0 then 1 else 0)) := by
  have hc := ZmV L a n i0
  have hw : IntKind.i64.wrap (F.getD i0 0 + 1) = ((cnt L a n i0 + 1 : Nat) : Int) := by
    rw [h.at_ i0 hi, w64 (by omega) (by omega)]; omega
  refine ⟨hw, by rw [List.length_set]; exact h.len, fun i hiT => ?_, ?_⟩
  · rw [Zh9 (by rw [h.len]; omega), hw, Zio L han i]
    by_cases e : i = i0
    · subst e; rw [if_pos rfl, if_pos hx]
    · rw [if_neg e, if_neg (by omega), h.at_ i hiT]; rfl
  · rw [h.met]
    exact (Zmp (t0 := i0) (by rw [Zio L han i0, if_pos hx]) (fun t ht => by rw [Zio L han t, if_neg (by omega)]; rfl) T hi).symm
theorem ZgN {L : List Int} {T a n : Nat} {F : List Int} {m : Nat} (h : Row L T a n F m) (han : a < n) (hx : ¬ (0 ≤ L.getD a 0 ∧ L.getD a 0 < (T : Int))) : Row L T (a + 1) n F m := by
  have e : ∀ i, i < T → cnt L a n i = cnt L (a + 1) n i := fun i hi => by
    rw [ZfM L han i, if_neg (fun q => hx ⟨by omega, by omega⟩)]; rfl
  exact ⟨h.len, fun i hi => by rw [← e i hi]; exact h.at_ i hi, by rw [h.met]; exact Zin _ _ T fun t ht => e t ht⟩
theorem Zk0 {L : List Int} {T a n : Nat} {F : List Int} {m i0 : Nat} (h : Row L T a n F m) (hT : T ≤ 64) (han : a < n) (hn : n ≤ 100000) (hi : i0 < T) (hx : L.getD a 0 = (i0 : Int)) : IntKind.i64.wrap (F.getD i0 0 - 1) = ((cnt L (a + 1) n i0 : Nat) : Int) ∧ Row L T (a + 1) n (F.set i0 (IntKind.i64.wrap (F.getD i0 0 - 1))) (m - (if cnt L (a + 1) n i0 = 0 then 1 else 0)) := by
  have hc := ZmV L (a + 1) n i0
  have hd := ZfM L han i0
  rw [if_pos hx] at hd
  have hw : IntKind.i64.wrap (F.getD i0 0 - 1) = ((cnt L (a + 1) n i0 : Nat) : Int) := by
    rw [h.at_ i0 hi, w64 (by omega) (by omega)]; omega
  refine ⟨hw, by rw [List.length_set]; exact h.len, fun i hiT => ?_, ?_⟩
  · rw [Zh9 (by rw [h.len]; omega), hw]
    by_cases e : i = i0
    · subst e; rw [if_pos rfl]
    · have := ZfM L han i
      rw [if_neg (by omega)] at this
      rw [if_neg e, h.at_ i hiT, this]; rfl
  · rw [h.met, Zmp (f := cnt L (a + 1) n) (g := cnt L a n) (t0 := i0) hd (fun t ht => by rw [ZfM L han t, if_neg (by omega)]; rfl) T hi, Nat.add_sub_cancel]
theorem ZiA (f : Nat → Nat) : ∀ T, (∀ t, t < T → f t = 0) → nz f T = 0
  | 0, _ => rfl
  | T + 1, h => by simp only [nz, ZiA f T (fun t ht => h t (by omega)), h T (by omega), if_true]

theorem a_add {L : List Int} {T K N n m : Nat} {F : List Int} (hT1 : 1 ≤ T) (hT : T ≤ 64) (hK : 1 ≤ K) (hL : L.length ≤ 100000) (hn : n < L.length) (h : Row L T (n + 1 - K) n F m) : ∃ F' m', Zaq L (T : Int) (K : Int) N (.h1m0 F m n) = some (.inl (.h2m0 F' m' n n)) ∧ Row L T (n + 1 - K) (n + 1) F' m' := by
  have hm := ZgL (cnt L (n + 1 - K) n) T
  have hs : Zaq L (T : Int) (K : Int) N (.h1m0 F m n) = Zay L (T : Int) (K : Int) N F m n := rfl
  by_cases c0 : 0 ≤ L.getD n 0
  · by_cases c1 : L.getD n 0 < (T : Int)
    · obtain ⟨i0, e1, e2, e3⟩ := idx c0 c1
      obtain ⟨hw, hr⟩ := ZmW h hT (by omega) (by omega) e3 e2
      by_cases z : cnt L (n + 1 - K) n i0 = 0
      · rw [if_pos z] at hr
        refine ⟨_, _, hs.trans ?_, hr⟩
        unfold Zay
        rw [e1]
        exact Zb (by omega) <| Zb (by omega) <| Zb (by omega) <| Zb (by omega) <| Zb c0 <| Zb c1 <| Zb (by rw [h.len]; omega) <| Zb (by rw [hw]; omega) <| Zb (by rw [h.met]; omega) rfl
      · rw [if_neg z] at hr
        refine ⟨_, _, hs.trans ?_, hr⟩
        unfold Zay
        rw [e1]
        exact Zb (by omega) <| Zb (by omega) <| Zb (by omega) <| Zb (by omega) <| Zb c0 <| Zb c1 <| Zb (by rw [h.len]; omega) <| Zr (by rw [hw]; omega) rfl
    · refine ⟨F, m, hs.trans ?_, ZgM h (by omega) fun q => c1 q.2⟩
      unfold Zay
      exact Zb (by omega) <| Zb (by omega) <| Zb (by omega) <| Zb (by omega) <| Zb c0 <| Zr c1 rfl
  · refine ⟨F, m, hs.trans ?_, ZgM h (by omega) fun q => c0 q.1⟩
    unfold Zay
    exact Zb (by omega) <| Zb (by omega) <| Zb (by omega) <| Zb (by omega) <| Zr c0 rfl
theorem a_off {L : List Int} {T K N n m : Nat} {F : List Int} (hT1 : 1 ≤ T) (hT : T ≤ 64) (hK : 1 ≤ K) (hL : L.length ≤ 100000) (hn : n < L.length) (h : Row L T (n + 1 - K) (n + 1) F m) : (∃ F' m', Zaq L (T : Int) (K : Int) N (.h2m0 F m n n) = some (.inl (.h1m0 F' m' (n + 1))) ∧ Row L T (n + 1 + 1 - K) (n + 1) F' m' ∧ (K ≤ n + 1 → Win L T (n + 1 - K) K)) ∨ (Zaq L (T : Int) (K : Int) N (.h2m0 F m n n) = some (.inr (.r0 false)) ∧ ¬ Ze7 L T K) := by
  have hm := ZgL (cnt L (n + 1 - K) (n + 1)) T
  have hs : Zaq L (T : Int) (K : Int) N (.h2m0 F m n n) = Zaz L (T : Int) (K : Int) N F m n n := rfl
  by_cases c0 : n + 1 < K
  · refine .inl ⟨F, m, hs.trans ?_, by rw [show n + 1 + 1 - K = n + 1 - K by omega]; exact h, fun q => by omega⟩
    unfold Zaz
    exact Zb (by omega) <| Zb (by omega) <| Zb (by omega) <| Zb (by omega) <| Zb (by omega) <| Zb (by omega) rfl
  obtain ⟨s, hsd⟩ : ∃ s, s + K = n + 1 := ⟨n + 1 - K, by omega⟩
  have e1 : n + 1 - K = s := by omega
  have e2 : n + 1 + 1 - K = s + 1 := by omega
  have e3 : ((((n + 1 : Nat) : Int)) - (K : Int)).toNat = s := by omega
  rw [e1] at h hm ⊢
  rw [e2]
  have hwn : Win L T s K ↔ nz (cnt L s (n + 1)) T = T := by rw [Zlw, hsd]
  by_cases c1 : m < T
  · refine .inr ⟨hs.trans ?_, fun q => ?_⟩
    · unfold Zaz
      exact Zb (by omega) <| Zb (by omega) <| Zb (by omega) <| Zb (by omega) <| Zr (by omega) <| Zb (by omega) rfl
    · have := hwn.1 (q s (by omega))
      rw [h.met] at c1; omega
  have hw : Win L T s K := hwn.2 (by rw [h.met] at c1; omega)
  refine .inl ?_
  by_cases c2 : 0 ≤ L.getD s 0
  · by_cases c3 : L.getD s 0 < (T : Int)
    · obtain ⟨i0, f1, f2, f3⟩ := idx c2 c3
      obtain ⟨hv, hr⟩ := Zk0 h hT (by omega) (by omega) f3 f2
      by_cases z : cnt L (s + 1) (n + 1) i0 = 0
      · rw [if_pos z] at hr
        refine ⟨_, _, hs.trans ?_, hr, fun _ => hw⟩
        unfold Zaz
        rw [e3, f1]
        exact Zb (by omega) <| Zb (by omega) <| Zb (by omega) <| Zb (by omega) <| Zr (by omega) <| Zr (by omega) <| Zb (by omega) <| Zb c2 <| Zb c3 <| Zb (by rw [h.len]; omega) <| Zb (by rw [hv]; omega) <| Zb (by rw [h.met]; omega) <| Zb (by omega) rfl
      · rw [if_neg z] at hr
        refine ⟨_, _, hs.trans ?_, hr, fun _ => hw⟩
        unfold Zaz
        rw [e3, f1]
        exact Zb (by omega) <| Zb (by omega) <| Zb (by omega) <| Zb (by omega) <| Zr (by omega) <| Zr (by omega) <| Zb (by omega) <| Zb c2 <| Zb c3 <| Zb (by rw [h.len]; omega) <| Zr (by rw [hv]; omega) <| Zb (by omega) rfl
    · refine ⟨F, m, hs.trans ?_, ZgN h (by omega) (fun q => c3 q.2), fun _ => hw⟩
      unfold Zaz
      rw [e3]
      exact Zb (by omega) <| Zb (by omega) <| Zb (by omega) <| Zb (by omega) <| Zr (by omega) <| Zr (by omega) <| Zb (by omega) <| Zb c2 <| Zr c3 <| Zb (by omega) rfl
  · refine ⟨F, m, hs.trans ?_, ZgN h (by omega) (fun q => c2 q.1), fun _ => hw⟩
    unfold Zaz
    rw [e3]
    exact Zb (by omega) <| Zb (by omega) <| Zb (by omega) <| Zb (by omega) <| Zr (by omega) <| Zr (by omega) <| Zb (by omega) <| Zr c2 <| Zb (by omega) rfl
theorem ZnO {L : List Int} {T K N : Nat} (hT1 : 1 ≤ T) (hT : T ≤ 64) (hK : 1 ≤ K) (hL : L.length ≤ 100000) : ∀ d n m F f, n + d = L.length → 2 * d < f → Row L T (n + 1 - K) n F m → (∀ i, i + K ≤ n → Win L T i K) → ∃ b, Zam (Zaq L (T : Int) (K : Int) N) f (.h1m0 F m n) = some (.r0 b) ∧ (b = true ↔ Ze7 L T K)
  | 0, n, m, F, f, hd, hf, h, hw => by
    obtain ⟨f, rfl⟩ : ∃ g, f = g + 1 := ⟨f - 1, by omega⟩
    have hs : Zaq L (T : Int) (K : Int) N (.h1m0 F m n) = some (.inr (.r0 true)) := by
      show Zay L (T : Int) (K : Int) N F m n = _
      unfold Zay
      exact Zb (by omega) <| Zb (by omega) <| Zb (by omega) <| Zr (by omega) rfl
    exact ⟨true, Za8 hs, fun _ i hi => hw i (by omega), fun _ => rfl⟩
  | d + 1, n, m, F, f, hd, hf, h, hw => by
    obtain ⟨f, rfl⟩ : ∃ g, f = g + 2 := ⟨f - 2, by omega⟩
    obtain ⟨F1, m1, s1, r1⟩ := a_add (N := N) hT1 hT hK hL (by omega) h
    rcases a_off (N := N) hT1 hT hK hL (by omega) r1 with ⟨F2, m2, s2, r2, hw2⟩ | ⟨s2, nf⟩
    · obtain ⟨b, q1, q2⟩ := ZnO (N := N) hT1 hT hK hL d (n + 1) m2 F2 f (by omega) (by omega) r2 (fun i hi => by
        by_cases e : i + K ≤ n
        · exact hw i e
        · have := hw2 (by omega)
          rwa [show n + 1 - K = i by omega] at this)
      exact ⟨b, (Zap s1).trans ((Zap s2).trans q1), q2⟩
    · exact ⟨false, (Zap s1).trans (Za8 s2), fun q => (by cases q), fun q => absurd q nf⟩
theorem a_is {L : List Int} {T K N : Nat} (hT1 : 1 ≤ T) (hT : T ≤ 64) (hK : 1 ≤ K) (hL : L.length ≤ 40000) (hN : 90000 ≤ N) : ∃ b, Zcx L (T : Int) (K : Int) N = some (.r0 b) ∧ (b = true ↔ Ze7 L T K) := by
  obtain ⟨b, h1, h2⟩ := ZnO (L := L) (T := T) (K := K) (N := N) hT1 hT hK (by omega) L.length 0 0 (List.replicate 64 0) N (by omega) (by omega) ⟨by simp, fun i hi => by rw [Zky (by omega), ZcY]; rfl, (ZiA _ T fun t _ => ZcY _ _ t).symm⟩ (fun i hi => by omega)
  refine ⟨b, ?_, h2⟩
  unfold Zcx ZcE
  rw [if_pos (by omega), if_pos (by omega), if_neg (by omega)]
  exact h1

theorem b_add {L : List Int} {T K N n m : Nat} {F : List Int} (hT1 : 1 ≤ T) (hT : T ≤ 64) (hK : 1 ≤ K) (hL : L.length ≤ 100000) (hn : n < L.length) (h : Row L T (n + 1 - K) n F m) : ∃ F' m', ZQ L L.length (T : Int) (K : Int) N (.h1m0 F m n) = some (.inl (.h2m0 F' m' n n)) ∧ Row L T (n + 1 - K) (n + 1) F' m' := by
  have hm := ZgL (cnt L (n + 1 - K) n) T
  have hs : ZQ L L.length (T : Int) (K : Int) N (.h1m0 F m n) = Zae L L.length (T : Int) (K : Int) N F m n := rfl
  by_cases c0 : 0 ≤ L.getD n 0
  · by_cases c1 : L.getD n 0 < (T : Int)
    · obtain ⟨i0, e1, e2, e3⟩ := idx c0 c1
      obtain ⟨hw, hr⟩ := ZmW h hT (by omega) (by omega) e3 e2
      by_cases z : cnt L (n + 1 - K) n i0 = 0
      · rw [if_pos z] at hr
        refine ⟨_, _, hs.trans ?_, hr⟩
        unfold Zae
        rw [e1]
        exact Zb (by omega) <| Zb (by omega) <| Zb (by omega) <| Zb (by omega) <| Zb (by omega) <| Zb c0 <| Zb c1 <| Zb (by rw [h.len]; omega) <| Zb (by rw [hw]; omega) <| Zb (by rw [h.met]; omega) rfl
      · rw [if_neg z] at hr
        refine ⟨_, _, hs.trans ?_, hr⟩
        unfold Zae
        rw [e1]
        exact Zb (by omega) <| Zb (by omega) <| Zb (by omega) <| Zb (by omega) <| Zb (by omega) <| Zb c0 <| Zb c1 <| Zb (by rw [h.len]; omega) <| Zr (by rw [hw]; omega) rfl
    · refine ⟨F, m, hs.trans ?_, ZgM h (by omega) fun q => c1 q.2⟩
      unfold Zae
      exact Zb (by omega) <| Zb (by omega) <| Zb (by omega) <| Zb (by omega) <| Zb (by omega) <| Zb c0 <| Zr c1 rfl
  · refine ⟨F, m, hs.trans ?_, ZgM h (by omega) fun q => c0 q.1⟩
    unfold Zae
    exact Zb (by omega) <| Zb (by omega) <| Zb (by omega) <| Zb (by omega) <| Zb (by omega) <| Zr c0 rfl
theorem b_off {L : List Int} {T K N n m : Nat} {F : List Int} (hT1 : 1 ≤ T) (hT : T ≤ 64) (hK : 1 ≤ K) (hL : L.length ≤ 100000) (hn : n < L.length) (h : Row L T (n + 1 - K) (n + 1) F m) : (∃ F' m', ZQ L L.length (T : Int) (K : Int) N (.h2m0 F m n n) = some (.inl (.h1m0 F' m' (n + 1))) ∧ Row L T (n + 1 + 1 - K) (n + 1) F' m' ∧ (K ≤ n + 1 → Win L T (n + 1 - K) K)) ∨ (ZQ L L.length (T : Int) (K : Int) N (.h2m0 F m n n) = some (.inr (.r0 false)) ∧ ¬ Ze7 L T K) := by
  have hm := ZgL (cnt L (n + 1 - K) (n + 1)) T
  have hs : ZQ L L.length (T : Int) (K : Int) N (.h2m0 F m n n) = Zaf L L.length (T : Int) (K : Int) N F m n n := rfl
  by_cases c0 : n + 1 < K
  · refine .inl ⟨F, m, hs.trans ?_, by rw [show n + 1 + 1 - K = n + 1 - K by omega]; exact h, fun q => by omega⟩
    unfold Zaf
    exact Zb (by omega) <| Zb (by omega) <| Zb (by omega) <| Zb (by omega) <| Zb (by omega) <| Zb (by omega) rfl
  obtain ⟨s, hsd⟩ : ∃ s, s + K = n + 1 := ⟨n + 1 - K, by omega⟩
  have e1 : n + 1 - K = s := by omega
  have e2 : n + 1 + 1 - K = s + 1 := by omega
  have e3 : ((((n + 1 : Nat) : Int)) - (K : Int)).toNat = s := by omega
  rw [e1] at h hm ⊢
  rw [e2]
  have hwn : Win L T s K ↔ nz (cnt L s (n + 1)) T = T := by rw [Zlw, hsd]
  by_cases c1 : m < T
  · refine .inr ⟨hs.trans ?_, fun q => ?_⟩
    · unfold Zaf
      exact Zb (by omega) <| Zb (by omega) <| Zb (by omega) <| Zb (by omega) <| Zr (by omega) <| Zb (by omega) rfl
    · have := hwn.1 (q s (by omega))
      rw [h.met] at c1; omega
  have hw : Win L T s K := hwn.2 (by rw [h.met] at c1; omega)
  refine .inl ?_
  by_cases c2 : 0 ≤ L.getD s 0
  · by_cases c3 : L.getD s 0 < (T : Int)
    · obtain ⟨i0, f1, f2, f3⟩ := idx c2 c3
      obtain ⟨hv, hr⟩ := Zk0 h hT (by omega) (by omega) f3 f2
      by_cases z : cnt L (s + 1) (n + 1) i0 = 0
      · rw [if_pos z] at hr
        refine ⟨_, _, hs.trans ?_, hr, fun _ => hw⟩
        unfold Zaf
        rw [e3, f1]
        exact Zb (by omega) <| Zb (by omega) <| Zb (by omega) <| Zb (by omega) <| Zr (by omega) <| Zr (by omega) <| Zb (by omega) <| Zb (by omega) <| Zb c2 <| Zb c3 <| Zb (by rw [h.len]; omega) <| Zb (by rw [hv]; omega) <| Zb (by rw [h.met]; omega) <| Zb (by omega) rfl
      · rw [if_neg z] at hr
        refine ⟨_, _, hs.trans ?_, hr, fun _ => hw⟩
        unfold Zaf
        rw [e3, f1]
        exact Zb (by omega) <| Zb (by omega) <| Zb (by omega) <| Zb (by omega) <| Zr (by omega) <| Zr (by omega) <| Zb (by omega) <| Zb (by omega) <| Zb c2 <| Zb c3 <| Zb (by rw [h.len]; omega) <| Zr (by rw [hv]; omega) <| Zb (by omega) rfl
    · refine ⟨F, m, hs.trans ?_, ZgN h (by omega) (fun q => c3 q.2), fun _ => hw⟩
      unfold Zaf
      rw [e3]
      exact Zb (by omega) <| Zb (by omega) <| Zb (by omega) <| Zb (by omega) <| Zr (by omega) <| Zr (by omega) <| Zb (by omega) <| Zb (by omega) <| Zb c2 <| Zr c3 <| Zb (by omega) rfl
  · refine ⟨F, m, hs.trans ?_, ZgN h (by omega) (fun q => c2 q.1), fun _ => hw⟩
    unfold Zaf
    rw [e3]
    exact Zb (by omega) <| Zb (by omega) <| Zb (by omega) <| Zb (by omega) <| Zr (by omega) <| Zr (by omega) <| Zb (by omega) <| Zb (by omega) <| Zr c2 <| Zb (by omega) rfl
theorem ZnP {L : List Int} {T K N : Nat} (hT1 : 1 ≤ T) (hT : T ≤ 64) (hK : 1 ≤ K) (hL : L.length ≤ 100000) : ∀ d n m F f, n + d = L.length → 2 * d < f → Row L T (n + 1 - K) n F m → (∀ i, i + K ≤ n → Win L T i K) → ∃ b, Zam (ZQ L L.length (T : Int) (K : Int) N) f (.h1m0 F m n) = some (.r0 b) ∧ (b = true ↔ Ze7 L T K)
  | 0, n, m, F, f, hd, hf, h, hw => by
    obtain ⟨f, rfl⟩ : ∃ g, f = g + 1 := ⟨f - 1, by omega⟩
    have hs : ZQ L L.length (T : Int) (K : Int) N (.h1m0 F m n) = some (.inr (.r0 true)) := by
      show Zae L L.length (T : Int) (K : Int) N F m n = _
      unfold Zae
      exact Zb (by omega) <| Zb (by omega) <| Zb (by omega) <| Zr (by omega) rfl
    exact ⟨true, Za8 hs, fun _ i hi => hw i (by omega), fun _ => rfl⟩
  | d + 1, n, m, F, f, hd, hf, h, hw => by
    obtain ⟨f, rfl⟩ : ∃ g, f = g + 2 := ⟨f - 2, by omega⟩
    obtain ⟨F1, m1, s1, r1⟩ := b_add (N := N) hT1 hT hK hL (by omega) h
    rcases b_off (N := N) hT1 hT hK hL (by omega) r1 with ⟨F2, m2, s2, r2, hw2⟩ | ⟨s2, nf⟩
    · obtain ⟨b, q1, q2⟩ := ZnP (N := N) hT1 hT hK hL d (n + 1) m2 F2 f (by omega) (by omega) r2 (fun i hi => by
        by_cases e : i + K ≤ n
        · exact hw i e
        · have := hw2 (by omega)
          rwa [show n + 1 - K = i by omega] at this)
      exact ⟨b, (Zap s1).trans ((Zap s2).trans q1), q2⟩
    · exact ⟨false, (Zap s1).trans (Za8 s2), fun q => (by cases q), fun q => absurd q nf⟩
theorem b_is {L : List Int} {T K N : Nat} (hT1 : 1 ≤ T) (hT : T ≤ 64) (hK : 1 ≤ K) (hL : L.length ≤ 40000) (hN : 90000 ≤ N) : ∃ b, ZdK L L.length (T : Int) (K : Int) N = some (.r0 b) ∧ (b = true ↔ Ze7 L T K) := by
  obtain ⟨b, h1, h2⟩ := ZnP (L := L) (T := T) (K := K) (N := N) hT1 hT hK (by omega) L.length 0 0 (List.replicate 64 0) N (by omega) (by omega) ⟨by simp, fun i hi => by rw [Zky (by omega), ZcY]; rfl, (ZiA _ T fun t _ => ZcY _ _ t).symm⟩ (fun i hi => by omega)
  refine ⟨b, ?_, h2⟩
  unfold ZdK Zd4
  rw [if_pos (by omega), if_pos (by omega), if_neg (by omega)]
  exact h1
end Fp
end Ev
end Go.Proofs.YtgbiifdcabmffaaGreat
