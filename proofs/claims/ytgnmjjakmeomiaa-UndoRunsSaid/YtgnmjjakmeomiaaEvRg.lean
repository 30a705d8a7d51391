/- A function with a range over a function whose rounds are many: what it does, from its parts. -/
import Derived.Test.YtgnmjjakmeomiaaFm
import Derived.Test.YtgnmjjakmeomiaaEvRf
namespace Go.Proofs.Ytgnmjjakmeomiaa
open Go.RowKit
namespace Ev
noncomputable section
def evL (P : Program) (ext : FuncId → Option Ext) (nt fu : Nat) : List Code → Tr Value → St → Option (Tr Value × St)
 | [], T, s => some (T, s)
 | c :: l, T, s => match ZI P ext nt fu c T s with
  | some (.normal, T', s') => evL P ext nt fu l T' s'
  | _ => none
def ZoF : List Code → Code → Code
 | [], c => c
 | a :: l, c => .seq a (ZoF l c)
def ZoG (live temps : List Nat) (r : Option (Tr Value × St)) : Option (List (Option Value) × List (Option AObj) × List (Bool × Bool)) :=
 match r with
 | some (T, s) => bif Nat.ble s.n 1000000000 then some (temps.map T.get, live.map s.h.get, s.ob) else none
 | none => none
def ZhR (live temps : List Nat) (ys : List Tmp) (r : Option (Ex × Tr Value × St × List Tmp × Option Ex)) : Option (Ex × List (Option Value) × List (Option AObj) × List (Bool × Bool)) :=
 match r with
 | some (e, T, s, ys', none) => bif Nat.ble s.n 1000000000 && Zu (fun t => ZgY t ys') ys then some (e, temps.map T.get, live.map s.h.get, s.ob) else none
 | _ => none
def ZoH (P : Program) (fn : Func) (live : List Nat) (r : Option (Ex × Tr Value × St)) : Option (Value × List (Option AObj) × List (Bool × Bool)) :=
 match r with
 | some (.exit _, _, _) => none
 | some (_, T, s) => bif Nat.ble s.n 1000000000 then match ZaR P T s fn.results.toList with
  | some [v] => some (v, live.map s.h.get, s.ob)
  | some vs => some (.tuple vs.toArray, live.map s.h.get, s.ob)
  | none => none
  else none
 | none => none
end
theorem Zoo {live temps : List Nat} {r : Option (Tr Value × St)} {tv : List (Option Value)} {bl : List (Option AObj)} {ob : List (Bool × Bool)} (h : ZoG live temps r = some (tv, bl, ob)) : ∃ T s, r = some (T, s) ∧ temps.map T.get = tv ∧ live.map s.h.get = bl ∧ s.ob = ob ∧ s.n ≤ far := by
 unfold ZoG at h
 split at h
 ·rename_i T s
  obtain ⟨hn, h⟩ := Zr h
  injection h with h
  simp only [Prod.mk.injEq] at h
  obtain ⟨rfl, rfl, rfl⟩ := h
  exact ⟨T, s, rfl, rfl, rfl, rfl, Nat.le_of_ble_eq_true hn⟩
 ·cases h
theorem ZiX {live temps : List Nat} {ys : List Tmp} {r : Option (Ex × Tr Value × St × List Tmp × Option Ex)} {e : Ex} {tv : List (Option Value)} {bl : List (Option AObj)} {ob : List (Bool × Bool)} (h : ZhR live temps ys r = some (e, tv, bl, ob)) :
  ∃ T s ys', r = some (e, T, s, ys', none) ∧ (∀ t ∈ ys, t ∈ ys') ∧ temps.map T.get = tv ∧ live.map s.h.get = bl ∧ s.ob = ob ∧ s.n ≤ far := by
 unfold ZhR at h
 split at h
 ·rename_i e T s ys'
  obtain ⟨hn, h⟩ := Zr h
  simp only [Bool.and_eq_true] at hn
  injection h with h
  simp only [Prod.mk.injEq] at h
  obtain ⟨rfl, rfl, rfl, rfl⟩ := h
  exact ⟨T, s, ys', rfl, fun t ht => ZeH.1 (ZT hn.2 t ht), rfl, rfl, rfl, Nat.le_of_ble_eq_true hn.1⟩
 ·cases h
theorem Zop {P : Program} {fn : Func} {live : List Nat} {r : Option (Ex × Tr Value × St)} {u : Value} {bl : List (Option AObj)} {ob : List (Bool × Bool)} (h : ZoH P fn live r = some (u, bl, ob)) :
  ∃ e T s, r = some (e, T, s) ∧ (e = .normal ∨ e = .ret) ∧ (match ZaR P T s fn.results.toList with | some [v] => some v | some vs => some (.tuple vs.toArray) | none => none) = some u ∧ live.map s.h.get = bl ∧ s.ob = ob ∧ s.n ≤ far := by
 unfold ZoH at h
 split at h
 ·cases h
 ·rename_i e T s hne
  obtain ⟨hn, h⟩ := Zr h
  refine ⟨e, T, s, rfl, ?_, ?_⟩
  ·cases e with
   | normal => exact .inl rfl
   | ret => exact .inr rfl
   | exit i => exact (hne i rfl).elim
  ·split at h
   ·rename_i v hr
    injection h with h; simp only [Prod.mk.injEq] at h; obtain ⟨rfl, rfl, rfl⟩ := h
    exact ⟨rfl, rfl, rfl, Nat.le_of_ble_eq_true hn⟩
   ·rename_i vs hv hr
    injection h with h; simp only [Prod.mk.injEq] at h; obtain ⟨rfl, rfl, rfl⟩ := h
    exact ⟨rfl, rfl, rfl, Nat.le_of_ble_eq_true hn⟩
   ·cases h
 ·cases h
section
variable {P : Program} {ext : FuncId → Option Ext}
theorem ZoI (F : Fit P ext) {nt fu : Nat} : ∀ (l : List Code) (T : Tr Value) (s : St) (T' : Tr Value) (s' : St), evL P ext nt fu l T s = some (T', s') → Up s s'
 | [], T, s, T', s', h => by
  simp only [evL] at h
  injection h with h; simp only [Prod.mk.injEq] at h; obtain ⟨rfl, rfl⟩ := h; exact Up.refl _
 | c :: l, T, s, T', s', h => by
  simp only [evL] at h
  split at h
  ·rename_i T1 s1 h1
   exact ((ZbC (P := P) (ext := ext) (fun f g hg => (F.hp f g hg).up) fu).1 _ _ _ _ _ _ _ h1).trans (ZoI F l _ _ _ _ h)
  ·cases h
theorem Znr (F : Fit P ext) {nt fu : Nat} {c2 : Code} {Q : Exit → Act → World → Prop} : ∀ (l : List Code) (T : Tr Value) (s : St) (T' : Tr Value) (s' : St), evL P ext nt fu l T s = some (T', s') → (∀ p ∈ s'.ob, p.1 = p.2) → ∀ ι D a w, TR ι nt D T a → Emb P ι s.h.get w → Fresh ι s.n s'.n →
  (∀ ι' a' w', Step P ι s.h.get w ι' s'.h.get w' → Dom ι ι' s.n s'.n → TR ι' nt D T' a' → c2.wpIn (Fr none) 0 P Q a' w') → (ZoF l c2).wpIn (Fr none) 0 P Q a w
 | [], T, s, T', s', h, ho, ι, D, a, w, hT, he, hf, k => by
  simp only [evL] at h
  injection h with h; simp only [Prod.mk.injEq] at h; obtain ⟨rfl, rfl⟩ := h
  exact k ι a w (Step.refl he) Dom.refl hT
 | c :: l, T, s, T', s', h, ho, ι, D, a, w, hT, he, hf, k => by
  simp only [evL] at h
  split at h
  ·rename_i T1 s1 h1
   have u1 := (ZbC (P := P) (ext := ext) (fun f g hg => (F.hp f g hg).up) fu).1 _ _ _ _ _ _ _ h1
   have u2 := ZoI F l _ _ _ _ h
   refine wpIn_seq ((wpIn_wide (n := 0)).2 (wp_mono ((Zc8 F fu).1 nt c T s .normal T1 s1 h1 (Zan u2.ob ho) ι D a w hT he (hf.mono (Nat.le_refl _) u2.n)) ?_))
   rintro ex a1 w1 ⟨rfl, ι1, g1, g2, g3⟩
   exact Znr F l T1 s1 T' s' h ho ι1 D a1 w1 g3 g1.emb (hf.after g2 u1.n) fun ι' a' w' k1 k2 k3 => k ι' a' w' (g1.trans k1) (g2.trans k2 u1.n u2.n) k3
  ·cases h
theorem Zph {ι ι2 : Ren} {v v' : Value} (h : VR ι v v') : ∃ u, VR ι2 u v' := by
 have arr : ∀ {a a' : Array Value}, a.size = a'.size → (∀ (i : Nat) x y, a[i]? = some x → a'[i]? = some y → ∃ u, VR ι2 u y) → ∃ c : Array Value, c.size = a'.size ∧ ∀ (i : Nat) x y, c[i]? = some x → a'[i]? = some y → VR ι2 x y := fun {a a'} hs hx => by
  have each : ∀ i : _root_.Fin a'.size, ∃ u, VR ι2 u a'[i] := fun i => hx i a[i] a'[i] (Array.getElem?_eq_getElem (by omega)) (Array.getElem?_eq_getElem i.2)
  refine ⟨Array.ofFn fun i => (each i).choose, by simp, fun i x y h1 h2 => ?_⟩
  obtain ⟨hlt, rfl⟩ := Array.getElem?_eq_some_iff.1 h2
  rw [Array.getElem?_ofFn, dif_pos hlt] at h1
  injection h1 with h1
  subst h1
  exact (each ⟨i, hlt⟩).choose_spec
 induction h with
 | atom h => exact ⟨_, .atom h⟩
 | glob h => exact ⟨.chan (some 0), .glob h⟩
 | ptr h => exact ⟨.chan (some 0), .glob rfl⟩
 | slice h hn hc hq => exact ⟨.chan (some 0), .glob rfl⟩
 | slice0 h => exact ⟨.chan (some 0), .glob rfl⟩
 | func hs ht h1 h2 => exact ⟨.chan (some 0), .glob rfl⟩
 | agg hs h1 ih =>
  obtain ⟨c, q1, q2⟩ := arr hs ih
  exact ⟨_, .agg q1 q2⟩
 | tuple hs h1 ih =>
  obtain ⟨c, q1, q2⟩ := arr hs ih
  exact ⟨_, .tuple q1 q2⟩
def Zdw (m : Nat) : Nat → Value → Bool
 | d + 1, .agg cs => Zu (Zdw m d) cs.toList
 | d + 1, .tuple cs => Zu (Zdw m d) cs.toList
 | d + 1, .func _ a b => Zu (Zdw m d) a.toList && Zu (Zdw m d) b.toList
 | _, .pointer (some ⟨k, _, none⟩) => Nat.blt k m
 | _, .slice (some ⟨k, _, none⟩) _ _ => Nat.blt k m
 | _, v => atom v
theorem VR.cut {ι ι2 : Ren} {m : Nat} (hι : ∀ k b, k < m → ι k = some b → ι2 k = some b) : ∀ (d : Nat) (v v' : Value), VR ι v v' → Zdw m d v = true → VR ι2 v v'
 | d, v, v', h, hd => by
  cases h with
  | atom h => exact .atom h
  | glob h => exact .glob h
  | ptr h => cases d <;> exact .ptr (hι _ _ (Nat.le_of_ble_eq_true hd) h)
  | slice h hn hc hq => cases d <;> exact .slice (hι _ _ (Nat.le_of_ble_eq_true hd) h) hn hc hq
  | slice0 h => exact .slice0 h
  | func hs ht h1 h2 =>
   rename_i fn a a' b b'
   cases d with
   | zero =>
    have ha : Ev.atom (.func fn a b) = true := hd
    have e := VR.eq_of_atom ha (.func hs ht h1 h2)
    rw [e]
    exact .atom ha
   | succ d =>
    simp only [Zdw, Bool.and_eq_true] at hd
    exact .func hs ht (fun i x y hx hy => VR.cut hι d x y (h1 i x y hx hy) (Zax hd.1 i x hx)) (fun i x y hx hy => VR.cut hι d x y (h2 i x y hx hy) (Zax hd.2 i x hx))
  | agg hs h1 =>
   cases d with
   | zero => simp [Zdw, Ev.atom] at hd
   | succ d =>
    simp only [Zdw] at hd
    exact .agg hs fun i x y hx hy => VR.cut hι d x y (h1 i x y hx hy) (Zax hd i x hx)
  | tuple hs h1 =>
   cases d with
   | zero => simp [Zdw, Ev.atom] at hd
   | succ d =>
    simp only [Zdw] at hd
    exact .tuple hs fun i x y hx hy => VR.cut hι d x y (h1 i x y hx hy) (Zax hd i x hx)
theorem VR.cutU {ι ι2 : Ren} {m : Nat} (hι : ∀ k b, k < m → ι k = some b → ι2 k = some b) : ∀ (d : Nat) (v v' : Value), VR ι v v' → ZaW m d v = true → VR ι2 v v'
 | d, v, v', h, hd => by
  cases h with
  | atom h => exact .atom h
  | glob h => exact .glob h
  | ptr h => cases d <;> exact .ptr (hι _ _ (Nat.le_of_ble_eq_true hd) h)
  | slice h hn hc hq => cases d <;> exact .slice (hι _ _ (Nat.le_of_ble_eq_true hd) h) hn hc hq
  | slice0 h => exact .slice0 h
  | func hs ht h1 h2 =>
   rename_i fn a a' b b'
   have ha : Ev.atom (.func fn a b) = true := by cases d <;> exact hd
   have e := VR.eq_of_atom ha (.func hs ht h1 h2)
   rw [e]
   exact .atom ha
  | agg hs h1 =>
   cases d with
   | zero => simp [ZaW, Ev.atom] at hd
   | succ d =>
    simp only [ZaW] at hd
    exact .agg hs fun i x y hx hy => VR.cutU hι d x y (h1 i x y hx hy) (Zax hd i x hx)
  | tuple hs h1 =>
   cases d with
   | zero => simp [ZaW, Ev.atom] at hd
   | succ d =>
    simp only [ZaW] at hd
    exact .tuple hs fun i x y hx hy => VR.cutU hι d x y (h1 i x y hx hy) (Zax hd i x hx)
def ZgM (m : Nat) : List (Option AObj) → Prop
 | [] => True
 | o :: l => (match o with | some x => Zf4 m x = true | none => True) ∧ ZgM m l
theorem ZkI {m : Nat} : ∀ {H : List (Option AObj)}, ZgM m H → ∀ k o, lkO H k = some o → Zf4 m o = true
 | [], _, k, o, hk => by simp [lkO] at hk
 | x :: H, h, 0, o, hk => by
  have e : x = some o := by simpa [lkO] using hk
  subst e
  exact h.1
 | x :: H, h, k + 1, o, hk => ZkI h.2 k o (by simpa [lkO] using hk)
theorem Zpw {nt m n0 : Nat} {lt : List (Nat × Value)} {H : List (Option AObj)} {gv : Nat → Value} {ι0 ι : Ren} {h0 : AH} {w0 w : World} {a : Act} (hm : H.length ≤ m) (hn : n0 ≤ m) (hd : ∀ k, ι0 k ≠ none → k < n0)
  (hu : ∀ x ∈ lt, Zdw m 3 x.2 = true) (hUA : ZgM m H) (hT : TR ι nt [] (tmps nt (fun t => ZH t lt) gv) a) (hS : Step P ι0 h0 w0 ι (Zb7 0 H).get w) :
  ∃ gv', TR (fun k => if k < m then ι k else none) nt [] (tmps nt (fun t => ZH t lt) gv') a ∧ Step P ι0 h0 w0 (fun k => if k < m then ι k else none) (Zb7 0 H).get w := by
 have hι : ∀ k b, k < m → ι k = some b → (fun k => if k < m then ι k else none) k = some b := fun k b hk hb => by simp [hk, hb]
 have hb : ∀ k b, (fun k => if k < m then ι k else none) k = some b → k < m ∧ ι k = some b := fun k b h => by
  by_cases hk : k < m
  ·simp only [hk, if_true] at h; exact ⟨hk, h⟩
  ·simp only [hk, if_false] at h; cases h
 have hH : ∀ k, ((Zb7 0 H).get k).isSome → k < m := fun k hk => by
  rw [Zkf] at hk
  unfold lkO at hk
  cases hx : H[k]? with
  | none => rw [hx] at hk; cases hk
  | some o => have := (List.getElem?_eq_some_iff.1 hx).1; omega
 have hall : ∀ t, ∃ u, VR (fun k => if k < m then ι k else none) u (a.tmps.getD t undef) := fun t => Zph (hT.2.2 t)
 refine ⟨fun t => (hall t).choose, ⟨hT.1, hT.2.1, fun t => ?_⟩, ?_⟩
 ·have h1 := hT.2.2 t
  rw [ZjZ] at h1 ⊢
  by_cases ht : t < nt
  ·rw [if_pos ht] at h1 ⊢
   cases hl : ZH t lt with
   | none => exact (hall t).choose_spec
   | some v =>
    simp only [hl] at h1
    exact VR.cut hι 3 _ _ h1 (hu (t, v) (Zfm hl))
  ·rw [if_neg ht] at h1 ⊢
   have : a.tmps.getD t undef = undef := by
    have := hT.1
    simp [Array.getD, show ¬ t < a.tmps.size by omega]
   rw [this]
   exact VR.undef'
 ·refine ⟨fun k b h => hι k b (by have := hd k (by rw [h]; simp); omega) (hS.ext k b h), ⟨fun k c t hk => ?_, fun k O hk => ?_, fun k k' b b' h1 h2 h3 h4 h5 => hS.emb.inj k k' b b' h1 h2 (hb k b h3).2 (hb k' b' h4).2 h5, fun k b h => hS.emb.lt k b (hb k b h).2⟩, hS.os, hS.tape, hS.output, hS.size, hS.frame, fun k b h1 h2 => hS.new k b h1 (hb k b h2).2, hS.alive, hS.kind⟩
  ·obtain ⟨b, C, q1, q2⟩ := hS.emb.obj k c t hk
   have hcs : Zu (ZaW m 1) c = true := ZkI hUA k (.cells c t) (by rw [← Zkf]; exact hk)
   exact ⟨b, C, hι k b (hH k (by rw [hk]; rfl)) q1, q2.1, ⟨q2.2.1.1, fun i x y hx hy => VR.cutU hι 1 x y (q2.2.1.2 i x y hx hy) (ZT hcs x (List.mem_of_getElem? hx))⟩, q2.2.2⟩
  ·obtain ⟨b, q1, q2⟩ := hS.emb.ro k O hk
   exact ⟨b, hι k b (hH k (by rw [hk]; rfl)) q1, q2⟩
theorem Zm3 {nt fu : Nat} {c : Code} : ∀ (l : List Code) (T : Tr Value) (s : St) (T' : Tr Value) (s' : St), evL P ext nt fu (l ++ [c]) T s = some (T', s') → ∃ T1 s1, evL P ext nt fu l T s = some (T1, s1) ∧ ZI P ext nt fu c T1 s1 = some (.normal, T', s')
 | [], T, s, T', s', h => by
  simp only [List.nil_append, evL] at h
  split at h
  ·rename_i T1 s1 h1
   injection h with h; simp only [Prod.mk.injEq] at h; obtain ⟨rfl, rfl⟩ := h
   exact ⟨T, s, rfl, h1⟩
  ·cases h
 | a :: l, T, s, T', s', h => by
  simp only [List.cons_append, evL] at h
  split at h
  ·rename_i T1 s1 h1
   obtain ⟨T2, s2, h2, h3⟩ := Zm3 l T1 s1 T' s' h
   refine ⟨T2, s2, ?_, h3⟩
   simp only [evL]
   rw [h1]
   exact h2
  ·cases h
theorem ZkJ (F : Fit P ext) {f : FuncId} {fn : Func} {cs : List Code} {c5 tail asg body : Code} {id0 : Nat} {g : Operand} {ps : Array Tmp} {A : Array Value} {pre : List AObj} {v : Value} {post : List (Option AObj)}
  (hfn : P.funcs[f]? = some fn) (hb : fn.body = some (ZoF cs (.seq (.seq c5 (.block id0 (.rangeFunc g ps asg body))) tail))) (hA : Nat.ble A.size fn.ntmps = true) (hle : post.length ≤ far)
  (lt5 : List (Nat × Value)) (H5 : List (Option AObj)) {fu1 : Nat} {orc1 : Orc} {live1 : List Nat} {tv1 : List (Option Value)} {bl1 : List (Option AObj)} {ob1 : List (Bool × Bool)}
  (h1 : ZoG live1 (lt5.map (·.1)) (evL P ext fn.ntmps fu1 (cs ++ [c5]) (ZcW 0 A.toList .nil) ⟨Zd2 0 pre, pre.length, [], orc1, []⟩) = some (tv1, bl1, ob1)) (o1 : ∀ p ∈ ob1, p.1 = p.2) (l1 : live1.length = H5.length) (nd1 : live1.Nodup) (k1 : ZbZ pre.length live1 = true) (t1 : Zdn (rho live1 far) tv1 lt5) (b1 : Za9 (rho live1 far) bl1 H5)
  (hm5 : H5.length ≤ far) (hp5 : pre.length ≤ H5.length) (u5 : ∀ x ∈ lt5, Zdw H5.length 3 x.2 = true) (ua5 : ZgM H5.length H5)
  {gf id : Nat} {av bv : Array Value} {fnI : Func} {cA cB : Code} (hg : ∀ gv, opnd (tmps fn.ntmps (fun t => ZH t lt5) gv) g = .func (.func gf) av bv) (hgd : Zd5 g = true) (hfnI : P.funcs[gf]? = some fnI) (hbI : fnI.body = some (.seq cA (.block id (.loop cB))))
  (hszI : Nat.ble (av ++ #[Value.chan (some 0)] ++ bv).size fnI.ntmps = true) (hresI : fnI.results.toList = [])
  {X R : Type} (step : X → Option (X ⊕ R)) (L : X → List (Nat × Value)) (H : X → List (Option AObj)) {m : Nat} (hHm : ∀ x, (H x).length = m) (hm : m ≤ far) (ys : List Tmp) (HF : List (Option AObj)) (hmf : HF.length ≤ far)
  (r : R) (x0 : X) (N : Nat) (hit : Zb1 step N x0 = some r)
  (hAe : ∀ gv, ∃ fu orc live tv bl ob, ZhR live ((L x0).map (·.1)) ys (evI P ext fnI.ntmps ⟨fn.ntmps, tmps fn.ntmps (fun t => ZH t lt5) gv, ps, asg, body⟩ fu cA (ZcW 0 (av ++ #[Value.chan (some 0)] ++ bv).toList .nil) ⟨Zb7 0 H5, H5.length, [], orc, []⟩ [av.size] none) = some (.normal, tv, bl, ob) ∧ (∀ p ∈ ob, p.1 = p.2) ∧ live.length = m ∧ live.Nodup ∧ ZbZ H5.length live = true ∧ Zdn (rho live far) tv (L x0) ∧ Za9 (rho live far) bl (H x0))
  (hBx : ∀ x o, step x = some o → ∀ gv gvc, match o with
   | .inl y => ∃ fu orc live tv bl ob, ZhR live ((L y).map (·.1)) ys (evI P ext fnI.ntmps ⟨fn.ntmps, tmps fn.ntmps (fun t => ZH t lt5) gvc, ps, asg, body⟩ fu cB (tmps fnI.ntmps (fun t => ZH t (L x)) gv) ⟨Zb7 0 (H x), m, [], orc, []⟩ ys none) = some (.normal, tv, bl, ob) ∧ (∀ p ∈ ob, p.1 = p.2) ∧ live.length = m ∧ live.Nodup ∧ ZbZ H5.length live = true ∧ Zdn (rho live far) tv (L y) ∧ Za9 (rho live far) bl (H y)
   | .inr r' => r' = r → ∃ fu orc live bl ob, ZhR live [] ys (evI P ext fnI.ntmps ⟨fn.ntmps, tmps fn.ntmps (fun t => ZH t lt5) gvc, ps, asg, body⟩ fu cB (tmps fnI.ntmps (fun t => ZH t (L x)) gv) ⟨Zb7 0 (H x), m, [], orc, []⟩ ys none) = some (.exit id, [], bl, ob) ∧ (∀ p ∈ ob, p.1 = p.2) ∧ live.length = HF.length ∧ live.Nodup ∧ ZbZ H5.length live = true ∧ Za9 (rho live far) bl HF)
  (hTl : ∀ gv, ∃ fu orc live u bl ob, ZoH P fn live (ZI P ext fn.ntmps fu tail (tmps fn.ntmps (fun t => ZH t lt5) gv) ⟨Zb7 0 HF, HF.length, [], orc, []⟩) = some (u, bl, ob) ∧ (∀ p ∈ ob, p.1 = p.2) ∧ live.length = post.length ∧ live.Nodup ∧ ZbZ pre.length live = true ∧ (v = ZaC (rho live far) 3 u ∧ Zaf 3 u = true) ∧ Za9 (rho live far) bl post) :
  LSpec P f A pre v post := by
 intro ι w args' hd ha he
 refine (callsIn_wide (n := 0)).1 (callsIn_of_wp_marks hfn hb trivial ?_)
 obtain ⟨T5, s5, e5, rfl, rfl, rfl, n5⟩ := Zoo h1
 obtain ⟨T4, s4, e4, e5'⟩ := Zm3 cs _ _ _ _ e5
 have u4 := ZoI F cs _ _ _ _ e4
 have u5' := (ZbC (P := P) (ext := ext) (fun f g hg => (F.hp f g hg).up) fu1).1 _ _ _ _ _ _ _ e5'
 have hfr : Fresh ι pre.length s5.n := ⟨n5, fun k h1 _ => by
  cases hk : ι k with
  | none => rfl
  | some b => exact absurd (hd k (by rw [hk]; simp)) (by omega)⟩
 refine Znr F cs _ _ T4 s4 e4 (Zan u5'.ob o1) ι [] _ w (Zex ha (Nat.le_of_ble_eq_true hA)) (by show Emb P ι (Zd2 0 pre).get w; rw [Zep]; exact he) (hfr.mono (Nat.le_refl _) u5'.n) ?_
 intro ι4 a4 w4 g1 g2 g3
 refine wpIn_seq (wpIn_seq ((wpIn_wide (n := 0)).2 (wp_mono ((Zc8 F fu1).1 fn.ntmps c5 T4 s4 .normal T5 s5 e5' o1 ι4 [] a4 w4 g3 g1.emb (hfr.after g2 u4.n)) ?_)))
 rintro ex a5 w5 ⟨rfl, ι5, k2, k3, k4⟩
 have S5 : Step P ι (lk pre) w ι5 s5.h.get w5 := by
  have := g1.trans k2
  simp only [Zep] at this
  exact this
 have hi := Zeq (nt := fn.ntmps) l1 nd1 t1 b1
 obtain ⟨gv0, ι6, a1, a2, a3, _⟩ := Zka k4 S5 live1 H5.length far hi.1 hm5 hi.2.1 (fun k hk2 => ZfZ k1 (hd k hk2)) (fun t => ZH t lt5) hi.2.2.1 (Zb7 0 H5).get hi.2.2.2
 obtain ⟨gv, TRc, Sc⟩ := Zpw (Nat.le_refl H5.length) hp5 hd u5 ua5 a1 a2
 have hdc : ∀ k, (fun k => if k < H5.length then ι6 k else none) k ≠ none → k < H5.length := fun k hk => by
  by_cases h : k < H5.length
  ·exact h
  ·simp [h] at hk
 obtain ⟨fuA, orcA, liveA, tvA, blA, obA, hevA, hoA, hlA, hndA, hkA, htA, hbA⟩ := hAe gv
 obtain ⟨TA, sA, ysA, eA, hyA, rfl, rfl, rfl, nA⟩ := ZiX hevA
 refine wpIn_block (wpIn_mono (Zpg F (h := Zb7 0 H5) (n1 := H5.length) (m := m) (mf := HF.length) TRc Sc.emb hdc (hg gv) hgd hfnI hbI hszI hresI hm hmf (X := {p : X × Nat // Zb1 step p.2 p.1 = some r}) (fun p => fun t => ZH t (L p.1.1)) (fun p => Zb7 0 (H p.1.1)) (fun p => p.1.2) ⟨(x0, N), hit⟩ ys (Zb7 0 HF) eA hyA hoA nA (Zeq hlA hndA htA hbA) hkA ?_) ?_)
 ·rintro ⟨⟨x, n⟩, hn⟩ gvx
  simp only at hn ⊢
  cases n with
  | zero => cases hn
  | succ n =>
   rw [Zb1] at hn
   cases hs : step x with
   | none => rw [hs] at hn; cases hn
   | some o =>
    rw [hs] at hn
    have hx := hBx x o hs gvx gv
    cases o with
    | inl y =>
     obtain ⟨fu, orc, live, tv, bl, ob, hev, hob, hl, hnd, hk, ht, hbl⟩ := hx
     obtain ⟨T', s', ys', e', hy', rfl, rfl, rfl, n'⟩ := ZiX hev
     exact ⟨fu, orc, .normal, T', s', ys', live, e', hy', hob, n', hk, .inl ⟨rfl, ⟨(y, n), hn⟩, Nat.lt_succ_self _, Zeq (hl.trans rfl) hnd ht hbl⟩⟩
    | inr r' =>
     have hr : r' = r := by simpa using hn
     obtain ⟨fu, orc, live, bl, ob, hev, hob, hl, hnd, hk, hbl⟩ := hx hr
     obtain ⟨T', s', ys', e', hy', _, rfl, rfl, n'⟩ := ZiX hev
     refine ⟨fu, orc, .exit id, T', s', ys', live, e', hy', hob, n', hk, .inr ⟨rfl, ?_⟩⟩
     have := Zeq (nt := fnI.ntmps) (T := T') (lt := []) hl hnd trivial hbl
     exact this
 ·rintro ex a6 w6 ⟨rfl, ι7, K, q1, q2, q3, q4, q5, q6⟩
  obtain ⟨fuT, orcT, liveT, u, blT, obT, hevT, hoT, hlT, hndT, hkT, hvT, hbT⟩ := hTl gv
  obtain ⟨e3, T3, s3, eT, he3, hres, rfl, rfl, nT⟩ := Zop hevT
  show tail.wpIn (Fr none) 0 P _ a6 w6
  refine (wpIn_wide (n := 0)).2 (wp_mono ((Zc8 F fuT).1 fn.ntmps tail _ ⟨Zb7 0 HF, HF.length, [], orcT, []⟩ e3 T3 s3 eT hoT ι7 _ a6 w6 q4 q1.emb ⟨nT, fun k h1 h2 => q2 k h1 (by omega)⟩) ?_)
  rintro ex a7 w7 ⟨rfl, ι8, r1, r2, r3⟩
  obtain ⟨p1, p2⟩ := ZhJ r1 (Array.getElem?_eq_some_iff.1 q5).1 q6
  have S8 : Step P ι (lk pre) w ι8 s3.h.get (w7.putObj K (.deferred none)) := ((Sc.trans q1).trans r1).put (Nat.le_trans Sc.size q3) p1 _
  have fin : LeavesInM (Fr none) 0 P fn a7.tmps (Fin P ι pre w v post) a7.defers .returning w7 := by
   rw [r3.2.1]
   obtain ⟨v', hrun, hv⟩ := Zcb r3 S8.emb hres
   exact ⟨by simp, .inl ⟨K, _, rfl, run_takeDeferred (p2.trans q5), v', hrun, ZkA hle hd ⟨hlT, hndT, hkT, hvT, ZdD hbT⟩ S8 hv⟩⟩
  rcases he3 with rfl | rfl
  ·exact fin
  ·exact fin
end
end Ev
end Go.Proofs.Ytgnmjjakmeomiaa
