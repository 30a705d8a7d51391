/- The law PlainOne, for every input. -/
import Derived.Test.YtiijipocjellpaaGreatZad
import Derived.Test.YtiijipocjellpaaGreatZae
import Derived.Test.YtiijipocjellpaaGreatZac
import Derived.StillTail
import Derived.OrdersHeld
import Derived.WideBlind
import Derived.Test.YtiijipocjellpaaGreatZah
set_option linter.unusedSimpArgs false
set_option linter.unusedVariables false
/- Plain lemmas: machines step by step, lists by their places. -/
namespace Go.Proofs.YtiijipocjellpaaGreat
open Go.RowKit
namespace Ev
section
variable {X R : Type} {step : X → Option (X ⊕ R)} {n : Nat} {x y : X} {r : R}
theorem ZH (h : step x = some (.inl y)) : Zav step (n + 1) x = Zav step n y := by simp [Zav, h]
theorem ZjN (h : step x = some (.inr r)) : Zav step (n + 1) x = some r := by simp [Zav, h]
theorem ZpM {o : Option (X ⊕ R)} (h : o = some (.inl x)) : goM step n o = Zav step n x := by subst h; rfl
end
section
variable {α : Type}
theorem Zb9 {L : List α} {i : Nat} {v d : α} (h : i < L.length) : (L.set i v).getD i d = v := by simp [h]
theorem Zbz {L : List α} {i j : Nat} {v d : α} (h : i ≠ j) : (L.set i v).getD j d = L.getD j d := by simp [List.getElem?_set_ne h]
end
theorem Zb {α : Type} {c : Prop} [Decidable c] {a b r : α} (h : c) (e : a = r) : (if c then a else b) = r := by rw [if_pos h]; exact e
theorem Zj {α : Type} {c : Prop} [Decidable c] {a b r : α} (h : ¬ c) (e : b = r) : (if c then a else b) = r := by rw [if_neg h]; exact e
theorem Z0 {α β : Type} {o : Option α} {a : α} {k : α → Option β} {r : Option β} (h : o = some a) (e : k a = r) : o.bind k = r := by rw [h]; exact e
theorem w64 {x : Int} (h1 : -9223372036854775808 ≤ x) (h2 : x ≤ 9223372036854775807) : IntKind.i64.wrap x = x := wrap_i64 ⟨h1, h2⟩
set_option linter.unusedVariables false
set_option linter.unusedSimpArgs false
set_option maxRecDepth 100000
set_option maxHeartbeats 4000000
namespace Po1
abbrev HD : List RJ := (⟨(1 : Int), (16 : Int), (255 : Int), (2 : Int), (0 : Int)⟩ : RJ) :: List.replicate 16 (⟨(0 : Int), (0 : Int), (0 : Int), (0 : Int), (0 : Int)⟩ : RJ)
theorem t1 : (1 : Int).toNat = 1 := rfl
structure WK (W K : List Int) (b : Int) : Prop where
 wl : W.length = 5
 kl : K.length = 5
 w0 : 0 ≤ W.getD 1 0
 wm : W.getD 1 0 % 4 ≤ 2
 wb : W.getD 1 0 / 4 ≤ 1000
 ws : W.getD 1 0 % 4 = 0 ∨ W.getD 1 0 / 4 ≤ 63
 k0 : 0 ≤ K.getD 1 0
 kb : K.getD 1 0 ≤ b
 bb : b ≤ 1000
theorem Zfg {W K : List Int} {b : Int} {N : Nat} (h : WK W K b) : ZX 1 W K N = some (.r0 (W.getD 1 0 % 4) (W.getD 1 0 / 4) (K.getD 1 0)) := by
 obtain ⟨wl, kl, w0, wm, wb, ws, k0, kb, bb⟩ := h
 have hc : W.getD 1 0 % 4 = 0 ∨ W.getD 1 0 % 4 = 1 ∨ W.getD 1 0 % 4 = 2 := by omega
 unfold ZX
 simp only [t1]
 rcases hc with hc | hc | hc <;> repeat (first | rfl | refine Zb (by omega) ?_ | refine Zj (by omega) ?_)
theorem Zlx {W K : List Int} {b n o v : Int} {N : Nat} (h : WK W K b) (hv : v = 1 ∨ v = 2) (hn : 0 ≤ n) (hn2 : n ≤ 1000) (ho : 0 ≤ o) (ho2 : o ≤ 63) (e : W.getD 1 0 = 4 * n) : Zae 1 n v o 0 W K N = some (.r0 (W.set 1 (4 * o + v)) (K.set 1 (K.getD 1 0 + 1)) true) := by
 obtain ⟨wl, kl, w0, wm, wb, ws, k0, kb, bb⟩ := h
 have hk : IntKind.i64.wrap (K.getD 1 0 + 1) = K.getD 1 0 + 1 := w64 (by omega) (by omega)
 unfold Zae
 simp only [t1, hk]
 rcases hv with rfl | rfl <;> repeat (first | rfl | refine Zb (by omega) ?_ | refine Zj (by omega) ?_)
theorem Zmx {W K : List Int} {b n o v : Int} {N : Nat} (h : WK W K b) (hv : v = 1 ∨ v = 2) (hn : 0 ≤ n) (hn2 : n ≤ 1000) (ho : 0 ≤ o) (ho2 : o ≤ 63) (e : ¬ W.getD 1 0 = 4 * n) : Zae 1 n v o 0 W K N = some (.r0 W K false) := by
 obtain ⟨wl, kl, w0, wm, wb, ws, k0, kb, bb⟩ := h
 unfold Zae
 simp only [t1]
 rcases hv with rfl | rfl <;> repeat (first | rfl | refine Zb (by omega) ?_ | refine Zj (by omega) ?_)
theorem Zmy {W K : List Int} {b v : Int} {N : Nat} (h : WK W K b) (hv : 0 ≤ v) (hv2 : v ≤ 1000) (e : ¬ W.getD 1 0 % 4 = 0) : Zak 1 v W K N = some (.r0 (W.set 1 (4 * v)) 0) := by
 have ha := Zfg (N := N) h
 obtain ⟨wl, kl, w0, wm, wb, ws, k0, kb, bb⟩ := h
 unfold Zak
 simp only [t1]
 repeat (first | refine Zb (by omega) ?_ | refine Zj (by omega) ?_)
 exact Z0 ha (Zj e rfl)
theorem ZpN {W K : List Int} {b v : Int} {N : Nat} (h : WK W K b) (hv : 0 ≤ v) (hv2 : v ≤ 1000) (e : W.getD 1 0 % 4 = 0) : Zak 1 v W K N = some (.r0 W 30) := by
 have ha := Zfg (N := N) h
 obtain ⟨wl, kl, w0, wm, wb, ws, k0, kb, bb⟩ := h
 unfold Zak
 simp only [t1]
 repeat (first | refine Zb (by omega) ?_ | refine Zj (by omega) ?_)
 exact Z0 ha (Zb e rfl)
theorem ZeP {D : List RI} {N : Nat} (hl : D.length = 5) : Zbd D 1 N = some (.r0 (D.getD 1 RI.z).a0 (D.getD 1 RI.z).a1 (D.getD 1 RI.z).a2) := by
 unfold Zbd
 simp only [t1]
 repeat (first | rfl | refine Zb (by omega) ?_ | refine Zj (by omega) ?_)
theorem ZjO {D : List RI} {n o v : Int} {N : Nat} (hl : D.length = 5) (hv : v = 1 ∨ v = 2) (ho : 0 ≤ o) (ho2 : o ≤ 63) (h0 : (D.getD 1 RI.z).a0 = 0) (h1 : (D.getD 1 RI.z).a1 = n) : Za0 D 1 n v o 0 N = some .r1 := by
 unfold Za0
 simp only [t1]
 rcases hv with rfl | rfl <;> repeat (first | rfl | refine Zb (by omega) ?_ | refine Zj (by omega) ?_)
theorem Zly {D : List RI} {n o v : Int} {N : Nat} (hl : D.length = 5) (h0 : ¬ ((D.getD 1 RI.z).a0 = 0 ∧ (D.getD 1 RI.z).a1 = n)) : Za0 D 1 n v o 0 N = some .r0 := by
 unfold Za0
 simp only [t1]
 refine Zb (by omega) (Zb (by omega) ?_)
 by_cases h : (D.getD 1 RI.z).a0 = 0
 ·exact Zj (by omega) (Zb (by omega) rfl)
 ·exact Zb h rfl
theorem Zlz {D : List RI} {v : Int} {N : Nat} (hl : D.length = 5) (hv : 0 ≤ v) (hv2 : v ≤ 1000) (h0 : ¬ (D.getD 1 RI.z).a0 = 0) (h2 : 0 ≤ (D.getD 1 RI.z).a2) : ZaA D 1 v N = some .r1 := by
 unfold ZaA
 simp only [t1]
 repeat (first | rfl | refine Zb (by omega) ?_ | refine Zj (by omega) ?_)
theorem Zpk {D : List RI} {v : Int} {N : Nat} (hl : D.length = 5) (h0 : (D.getD 1 RI.z).a0 = 0) : ZaA D 1 v N = some (.r0 30) := by
 unfold ZaA
 simp only [t1]
 repeat (first | rfl | refine Zb (by omega) ?_ | refine Zj (by omega) ?_)
theorem Zhw {V : List RH} {N : Nat} : Zab 2 1048577 300 HD V N = some (.r0 1 16 255 2 0 true) := by
 unfold Zab
 repeat (first | rfl | refine Zb (by decide) ?_ | refine Zj (by decide) ?_)
theorem ZoB {V : List RH} {k n : Int} {N : Nat} (h : ¬ k = 2) : Zab k n 300 HD V N = some (.r0 0 0 0 0 0 false) := by
 unfold Zab
 exact Zb (by decide) (Zb h rfl)
theorem f3 {f : Int} (h : 8 ≤ f) (h2 : f ≤ 10) : f = 8 ∨ f = 9 ∨ f = 10 := by omega
theorem Zjr {V : List RH} {f : Int} {N : Nat} (hl : V.length = 17) (h : 8 ≤ f) (h2 : f ≤ 10) : Zal 2 1048577 f 300 HD V N = some (.r0 (V.getD (1 + f).toNat RH.z).a0 (V.getD (1 + f).toNat RH.z).a1 0) := by
 have e : IntKind.i64.wrap (1048577 % 1048576 + f) = 1 + f := (w64 (by omega) (by omega)).trans (by omega)
 unfold Zal
 simp only [e]
 rcases f3 h h2 with rfl | rfl | rfl <;> repeat (first | rfl | refine Zb (by decide) ?_ | refine Zj (by decide) ?_ | refine Zb (by omega) ?_ | refine Zj (by omega) ?_)
theorem ZoC {V : List RH} {f n : Int} {N : Nat} (hl : V.length = 17) (h : 8 ≤ f) (h2 : f ≤ 10) (hn : 8 ≤ n) (hn2 : n ≤ 10) : Za1 2 1048577 f 1 n 300 HD V N = some (.r0 (V.set (1 + f).toNat ⟨1, n⟩) 0) := by
 have e : IntKind.i64.wrap (1048577 % 1048576 + f) = 1 + f := (w64 (by omega) (by omega)).trans (by omega)
 unfold Za1
 simp only [e]
 rcases f3 h h2 with rfl | rfl | rfl <;> repeat (first | rfl | refine Zb (by decide) ?_ | refine Zj (by decide) ?_ | refine Zb (by omega) ?_ | refine Zj (by omega) ?_)
theorem Zgz {F : List RH} {N : Nat} : Za2 300 2 1048577 F N = some (.r0 1 16 255 2 true) := by
 unfold Za2
 repeat (first | rfl | refine Zb (by decide) ?_ | refine Zj (by decide) ?_)
theorem ZnT {F : List RH} {k n : Int} {N : Nat} (h : ¬ k = 2) : Za2 300 k n F N = some (.r0 0 0 0 0 false) := by
 unfold Za2
 exact Zb h rfl
theorem Zl0 {F : List RH} {f : Int} {N : Nat} (hl : F.length = 16) (h : 8 ≤ f) (h2 : f ≤ 10) : ZaV 300 2 1048577 f F N = some (.r0 (F.getD f.toNat RH.z).a0 (F.getD f.toNat RH.z).a1 0) := by
 unfold ZaV
 rcases f3 h h2 with rfl | rfl | rfl <;> repeat (first | rfl | refine Zb (by decide) ?_ | refine Zj (by decide) ?_ | refine Zb (by omega) ?_ | refine Zj (by omega) ?_)
theorem ZnU {F : List RH} {f n : Int} {N : Nat} (hl : F.length = 16) (h : 8 ≤ f) (h2 : f ≤ 10) (hn : 8 ≤ n) (hn2 : n ≤ 10) : ZaG 300 2 1048577 f 1 n F N = some .r1 := by
 unfold ZaG
 rcases f3 h h2 with rfl | rfl | rfl <;> repeat (first | rfl | refine Zb (by decide) ?_ | refine Zj (by decide) ?_ | refine Zb (by omega) ?_ | refine Zj (by omega) ?_)
end Po1
set_option linter.unusedVariables false
set_option linter.unusedSimpArgs false
set_option maxRecDepth 100000
set_option maxHeartbeats 4000000
namespace Po1
abbrev RM := RL
abbrev RQ := Rqx
structure Bas (t k rk rn f vk vn q1 q2 q4 q5 q6 q7 q8 : Int) : Prop where
 kk : k = 0 ∧ vk = 0 ∨ k = 1 ∧ vk = 1 ∧ 8 ≤ vn ∧ vn ≤ 10
 q1 : q1 = t
 q2 : q2 = k + 1
 rk : rk = 2
 rn : rn = 1048577
 q4 : q4 = 2
 q5 : q5 = 1048577
 f8 : 8 ≤ f
 f10 : f ≤ 10
 q8 : q8 = f
 q6 : q6 = vk
 q7 : q7 = vn
abbrev Bs (t : Int) (X : RM) (q : RQ) : Prop := Bas t X.a0 X.a1 X.a2 X.a3 X.a4 X.a5 q.a1 q.a2 q.a4 q.a5 q.a6 q.a7 q.a8
structure Was (rc wk wn wi q11 q12 q13 : Int) : Prop where
 rc : rc = 1
 wk : wk = 0
 q11 : q11 = 0
 q12 : q12 = wn
 q13 : q13 = wi
 w0 : 0 ≤ wn
 wb : wn ≤ 1000
abbrev Ws (X : RM) (q : RQ) : Prop := Was X.a8 X.a9 X.a10 X.a11 q.a11 q.a12 q.a13
inductive TI (t W K : Int) (a : RH) (fr : Bool) (X : RM) (ver p : Int) (q : RQ) : Prop where
 | idle (hp : p = 0) (h : q.a2 = 0) (k0 : 0 ≤ X.a0) (k1 : X.a0 ≤ 1) (hq : q.a1 = t)
 | look (hp : p = 1) (b : Bs t X q) (h3 : q.a3 = 0)
 | ask (hp : p = 4) (b : Bs t X q) (h3 : q.a3 = 2) (hr : X.a8 = 1)
 | read (hp : p = 5) (b : Bs t X q) (h3 : q.a3 = 3) (w : Ws X q) (k0 : X.a0 = 0) (h : X.a11 ≤ K) (h' : K = X.a11 → W = 4 * X.a10)
 | again (hp : p = 6) (b : Bs t X q) (h3 : q.a3 = 4) (w : Ws X q) (k0 : X.a0 = 0) (h : X.a11 ≤ K) (hf : K = X.a11 → fr = true) (g1 : X.a12 = a.a0) (g2 : X.a13 = a.a1) (he : X.a14 = 0)
 | take (hp : p = 7) (b : Bs t X q) (h3 : q.a3 = 5) (w : Ws X q) (k0 : X.a0 = 1)
 | write (hp : p = 8) (b : Bs t X q) (h3 : q.a3 = 6) (w : Ws X q) (k0 : X.a0 = 1)
 | count (hp : p = 9) (b : Bs t X q) (h3 : q.a3 = 7) (w : Ws X q) (k0 : X.a0 = 1)
 | let_ (hp : p = 10) (b : Bs t X q) (h3 : q.a3 = 8) (w : Ws X q) (k0 : X.a0 = 1) (h17 : q.a17 = ver) (v0 : 0 ≤ ver) (vb : ver ≤ 1000)
structure Mem (b : Int) (D : List RI) (kd : Int) (F V : List RH) (W K : List Int) (kp : Int) : Prop where
 wk : WK W K b
 dl : D.length = 5
 d0 : (D.getD 1 RI.z).a0 = W.getD 1 0 % 4
 d1 : (D.getD 1 RI.z).a1 = W.getD 1 0 / 4
 d2 : (D.getD 1 RI.z).a2 = K.getD 1 0
 fl : F.length = 16
 vl : V.length = 17
 c : kd = kp
 c0 : 0 ≤ kp
 cb : kp ≤ b
 bb : b ≤ 200
abbrev stp (now : Int) (L : List RM) (ver : Int) (wr ce : Bool) (mo r0 r1 er t p : Int) (V : List RH) (W K : List Int) (kp : Int) (N : Nat) : Option Zr := Zz now L ver wr ce mo r0 r1 er t p 3 (List.replicate 64 (⟨(0 : Int), false, false⟩ : RG)) 300 5 50 50 1000 1 0 300 HD V W K 1000 kp 0 3 (List.replicate 64 (0 : Int)) N
abbrev rst (now : Int) (q : RQ) (D : List RI) (kd : Int) (F : List RH) (N : Nat) : Option Zt := ZO 300 5 50 50 1000 1 0 300 D 1000 kd 0 ([(0 : Int), (0 : Int), (0 : Int)] : List Int) q.a0 q.a1 q.a2 q.a3 q.a4 q.a5 q.a6 q.a7 q.a8 q.a9 q.a10 q.a11 q.a12 q.a13 q.a14 q.a15 q.a16 q.a17 q.a18 q.a19 q.a20 q.a21 q.a22 now F false false false false false false N
section
variable {now : Int} {L : List RM} {ver : Int} {wr ce : Bool} {mo r0 r1 er t b : Int} {V : List RH} {W K : List Int} {kp : Int} {N : Nat} {q : RQ} {D : List RI} {kd : Int} {F : List RH} {k rk rn f vk vn : Int}
theorem t5 : Int.tmod ((1048577 : Int) % 1048576) ((5 : Nat) : Int) = 1 := by decide
theorem ZpO (k0 : 0 ≤ (L.getD 0 RL.z).a0) (k1 : (L.getD 0 RL.z).a0 ≤ 1) (m : Mem b D kd F V W K kp) : stp now L ver wr ce mo r0 r1 er t 0 V W K kp N = some (.r0 V W K 0 0 0 0 0 false L ver wr ce mo r0 r1 er 0 kp) := by
 have wl := m.wk.wl
 unfold stp Zz
 repeat (first | refine Zb (by omega) ?_ | refine Zj (by omega) ?_)
 all_goals rfl
theorem ZpP (h : Bs t (L.getD 0 RL.z) q) (m : Mem b D kd F V W K kp) : stp now L ver wr ce mo r0 r1 er t 1 V W K kp N = some (.r0 V W K 2 t 0 0 0 false [⟨(L.getD 0 RL.z).a0, (L.getD 0 RL.z).a1, (L.getD 0 RL.z).a2, (L.getD 0 RL.z).a3, (L.getD 0 RL.z).a4, (L.getD 0 RL.z).a5, (L.getD 0 RL.z).a6, (L.getD 0 RL.z).a7, 1, (L.getD 0 RL.z).a9, (L.getD 0 RL.z).a10, (L.getD 0 RL.z).a11, (L.getD 0 RL.z).a12, (L.getD 0 RL.z).a13, (L.getD 0 RL.z).a14, (L.getD 0 RL.z).a15⟩] ver wr ce mo r0 r1 er 4 kp) := by
 have wl := m.wk.wl; have h1 := h.rk; have h2 := h.rn; have hk := h.kk; have f8 := h.f8; have f10 := h.f10
 have h5 : 0 ≤ (L.getD 0 RL.z).a0 := by omega
 have h6 : (L.getD 0 RL.z).a0 ≤ 1 := by omega
 have hv : ¬ (L.getD 0 RL.z).a4 = 2 := by omega
 unfold stp Zz
 rw [h1, h2, wl, Zhw, ZoB hv, t5]
 repeat (first | refine Zb (by omega) ?_ | refine Zj (by omega) ?_ | rw [Option.bind_some] | refine Zb rfl ?_ | refine Zj (by decide) ?_)
 all_goals rfl
theorem ZpQ (h : Bs t (L.getD 0 RL.z) q) (hr : (L.getD 0 RL.z).a8 = 1) (e : ¬ W.getD 1 0 % 4 = 0) (m : Mem b D kd F V W K kp) : stp now L ver wr ce mo r0 r1 er t 4 V W K kp N = some (.r0 V W K 14 t 0 0 0 false [⟨(L.getD 0 RL.z).a0, (L.getD 0 RL.z).a1, (L.getD 0 RL.z).a2, (L.getD 0 RL.z).a3, (L.getD 0 RL.z).a4, (L.getD 0 RL.z).a5, (L.getD 0 RL.z).a6, (L.getD 0 RL.z).a7, (L.getD 0 RL.z).a8, (W.getD 1 0 % 4), (W.getD 1 0 / 4), (K.getD 1 0), (L.getD 0 RL.z).a12, (L.getD 0 RL.z).a13, (L.getD 0 RL.z).a14, (L.getD 0 RL.z).a15⟩] ver wr ce mo r0 r1 er 4 kp) := by
 have wl := m.wk.wl; have h1 := h.rk; have h2 := h.rn; have hk := h.kk; have f8 := h.f8; have f10 := h.f10
 have h5 : 0 ≤ (L.getD 0 RL.z).a0 := by omega
 have h6 : (L.getD 0 RL.z).a0 ≤ 1 := by omega
 have ha := Zfg (N := N) m.wk
 unfold stp Zz
 rw [hr, ha, h1, h2]
 repeat (first | refine Zb (by omega) ?_ | refine Zj (by omega) ?_ | rw [Option.bind_some] | refine Zb rfl ?_ | refine Zj (by decide) ?_)
 all_goals rfl
theorem ZpR (h : Bs t (L.getD 0 RL.z) q) (hr : (L.getD 0 RL.z).a8 = 1) (k0 : (L.getD 0 RL.z).a0 = 0) (e : W.getD 1 0 % 4 = 0) (m : Mem b D kd F V W K kp) : stp now L ver wr ce mo r0 r1 er t 4 V W K kp N = some (.r0 V W K 3 t 0 0 0 false [⟨(L.getD 0 RL.z).a0, (L.getD 0 RL.z).a1, (L.getD 0 RL.z).a2, (L.getD 0 RL.z).a3, (L.getD 0 RL.z).a4, (L.getD 0 RL.z).a5, (L.getD 0 RL.z).a6, (L.getD 0 RL.z).a7, (L.getD 0 RL.z).a8, (W.getD 1 0 % 4), (W.getD 1 0 / 4), (K.getD 1 0), (L.getD 0 RL.z).a12, (L.getD 0 RL.z).a13, (L.getD 0 RL.z).a14, (L.getD 0 RL.z).a15⟩] ver wr ce mo r0 r1 er 5 kp) := by
 have wl := m.wk.wl; have h1 := h.rk; have h2 := h.rn; have hk := h.kk; have f8 := h.f8; have f10 := h.f10
 have h5 : 0 ≤ (L.getD 0 RL.z).a0 := by omega
 have h6 : (L.getD 0 RL.z).a0 ≤ 1 := by omega
 have ha := Zfg (N := N) m.wk
 unfold stp Zz
 rw [hr, ha, h1, h2]
 repeat (first | refine Zb (by omega) ?_ | refine Zj (by omega) ?_ | rw [Option.bind_some] | refine Zb rfl ?_ | refine Zj (by decide) ?_)
 all_goals rfl
theorem ZpS (h : Bs t (L.getD 0 RL.z) q) (hr : (L.getD 0 RL.z).a8 = 1) (k0 : (L.getD 0 RL.z).a0 = 1) (e : W.getD 1 0 % 4 = 0) (m : Mem b D kd F V W K kp) : stp now L ver wr ce mo r0 r1 er t 4 V W K kp N = some (.r0 V W K 3 t 0 0 0 false [⟨(L.getD 0 RL.z).a0, (L.getD 0 RL.z).a1, (L.getD 0 RL.z).a2, (L.getD 0 RL.z).a3, (L.getD 0 RL.z).a4, (L.getD 0 RL.z).a5, (L.getD 0 RL.z).a6, (L.getD 0 RL.z).a7, (L.getD 0 RL.z).a8, (W.getD 1 0 % 4), (W.getD 1 0 / 4), (K.getD 1 0), (L.getD 0 RL.z).a12, (L.getD 0 RL.z).a13, (L.getD 0 RL.z).a14, (L.getD 0 RL.z).a15⟩] ver wr ce mo r0 r1 er 7 kp) := by
 have wl := m.wk.wl; have h1 := h.rk; have h2 := h.rn; have hk := h.kk; have f8 := h.f8; have f10 := h.f10
 have h5 : 0 ≤ (L.getD 0 RL.z).a0 := by omega
 have h6 : (L.getD 0 RL.z).a0 ≤ 1 := by omega
 have ha := Zfg (N := N) m.wk
 unfold stp Zz
 rw [hr, ha, h1, h2]
 repeat (first | refine Zb (by omega) ?_ | refine Zj (by omega) ?_ | rw [Option.bind_some] | refine Zb rfl ?_ | refine Zj (by decide) ?_)
 all_goals rfl
theorem ZpT (h : Bs t (L.getD 0 RL.z) q) (k0 : (L.getD 0 RL.z).a0 = 0) (m : Mem b D kd F V W K kp) : stp now L ver wr ce mo r0 r1 er t 5 V W K kp N = some (.r0 V W K 4 t 2 1048577 (L.getD 0 RL.z).a3 false [⟨(L.getD 0 RL.z).a0, (L.getD 0 RL.z).a1, (L.getD 0 RL.z).a2, (L.getD 0 RL.z).a3, (L.getD 0 RL.z).a4, (L.getD 0 RL.z).a5, (L.getD 0 RL.z).a6, (L.getD 0 RL.z).a7, (L.getD 0 RL.z).a8, (L.getD 0 RL.z).a9, (L.getD 0 RL.z).a10, (L.getD 0 RL.z).a11, (V.getD (1 + (L.getD 0 RL.z).a3).toNat RH.z).a0, (V.getD (1 + (L.getD 0 RL.z).a3).toNat RH.z).a1, 0, (L.getD 0 RL.z).a15⟩] ver wr ce now r0 r1 er 6 kp) := by
 have wl := m.wk.wl; have h1 := h.rk; have h2 := h.rn; have hk := h.kk; have f8 := h.f8; have f10 := h.f10
 have h5 : 0 ≤ (L.getD 0 RL.z).a0 := by omega
 have h6 : (L.getD 0 RL.z).a0 ≤ 1 := by omega
 have hl := Zjr (N := N) m.vl f8 f10
 unfold stp Zz
 rw [h1, h2, Zhw, hl]
 repeat (first | refine Zb (by omega) ?_ | refine Zj (by omega) ?_ | rw [Option.bind_some] | refine Zb rfl ?_ | refine Zj (by decide) ?_)
 all_goals rfl
theorem ZpU (h : Bs t (L.getD 0 RL.z) q) (hr : (L.getD 0 RL.z).a8 = 1) (e : ¬ (W.getD 1 0 % 4 = (L.getD 0 RL.z).a9 ∧ W.getD 1 0 / 4 = (L.getD 0 RL.z).a10 ∧ K.getD 1 0 = (L.getD 0 RL.z).a11)) (m : Mem b D kd F V W K kp) : stp now L ver wr ce mo r0 r1 er t 6 V W K kp N = some (.r0 V W K 3 t 0 0 0 false L ver wr ce mo r0 r1 er 4 kp) := by
 have wl := m.wk.wl; have h1 := h.rk; have h2 := h.rn; have hk := h.kk; have f8 := h.f8; have f10 := h.f10
 have h5 : 0 ≤ (L.getD 0 RL.z).a0 := by omega
 have h6 : (L.getD 0 RL.z).a0 ≤ 1 := by omega
 have ha := Zfg (N := N) m.wk
 unfold stp Zz
 rw [hr, ha, h1, h2]
 repeat (first | refine Zb (by omega) ?_ | refine Zj (by omega) ?_ | rw [Option.bind_some] | refine Zb rfl ?_ | refine Zj (by decide) ?_)
 all_goals rfl
theorem ZpV (h : Bs t (L.getD 0 RL.z) q) (hr : (L.getD 0 RL.z).a8 = 1) (e : W.getD 1 0 % 4 = (L.getD 0 RL.z).a9 ∧ W.getD 1 0 / 4 = (L.getD 0 RL.z).a10 ∧ K.getD 1 0 = (L.getD 0 RL.z).a11) (he : (L.getD 0 RL.z).a14 = 0) (m : Mem b D kd F V W K kp) : stp now L ver wr ce mo r0 r1 er t 6 V W K kp N = some (.r0 V W K 3 t 0 0 0 true L ver wr true mo (L.getD 0 RL.z).a12 (L.getD 0 RL.z).a13 0 0 kp) := by
 have wl := m.wk.wl; have h1 := h.rk; have h2 := h.rn; have hk := h.kk; have f8 := h.f8; have f10 := h.f10
 have h5 : 0 ≤ (L.getD 0 RL.z).a0 := by omega
 have h6 : (L.getD 0 RL.z).a0 ≤ 1 := by omega
 have ha := Zfg (N := N) m.wk
 unfold stp Zz
 rw [hr, ha, h1, h2, he]
 repeat (first | refine Zb (by omega) ?_ | refine Zj (by omega) ?_ | rw [Option.bind_some] | refine Zb rfl ?_ | refine Zj (by decide) ?_)
 all_goals rfl
theorem Zpl (h : Bs t (L.getD 0 RL.z) q) (hr : (L.getD 0 RL.z).a8 = 1) (w0 : 0 ≤ (L.getD 0 RL.z).a10) (wb : (L.getD 0 RL.z).a10 ≤ 1000) (t0 : 0 ≤ t) (tb : t ≤ 2) (e : W.getD 1 0 = 4 * (L.getD 0 RL.z).a10) (m : Mem b D kd F V W K kp) : stp now L ver wr ce mo r0 r1 er t 7 V W K kp N = some (.r0 V (W.set 1 (4 * t + 2)) (K.set 1 (K.getD 1 0 + 1)) 6 t 0 0 0 false L ver wr ce mo r0 r1 er 8 kp) := by
 have wl := m.wk.wl; have h1 := h.rk; have h2 := h.rn; have hk := h.kk; have f8 := h.f8; have f10 := h.f10
 have h5 : 0 ≤ (L.getD 0 RL.z).a0 := by omega
 have h6 : (L.getD 0 RL.z).a0 ≤ 1 := by omega
 have ha := Zlx (N := N) m.wk (.inr rfl) w0 wb t0 (show t ≤ 63 by omega) e
 unfold stp Zz
 rw [hr, ha, h1, h2]
 repeat (first | refine Zb (by omega) ?_ | refine Zj (by omega) ?_ | rw [Option.bind_some] | refine Zb rfl ?_ | refine Zj (by decide) ?_)
 all_goals rfl
theorem Zpm (h : Bs t (L.getD 0 RL.z) q) (hr : (L.getD 0 RL.z).a8 = 1) (w0 : 0 ≤ (L.getD 0 RL.z).a10) (wb : (L.getD 0 RL.z).a10 ≤ 1000) (t0 : 0 ≤ t) (tb : t ≤ 2) (e : ¬ W.getD 1 0 = 4 * (L.getD 0 RL.z).a10) (m : Mem b D kd F V W K kp) : stp now L ver wr ce mo r0 r1 er t 7 V W K kp N = some (.r0 V W K 6 t 0 0 0 false L ver wr ce mo r0 r1 er 4 kp) := by
 have wl := m.wk.wl; have h1 := h.rk; have h2 := h.rn; have hk := h.kk; have f8 := h.f8; have f10 := h.f10
 have h5 : 0 ≤ (L.getD 0 RL.z).a0 := by omega
 have h6 : (L.getD 0 RL.z).a0 ≤ 1 := by omega
 have ha := Zmx (N := N) m.wk (.inr rfl) w0 wb t0 (show t ≤ 63 by omega) e
 unfold stp Zz
 rw [hr, ha, h1, h2]
 repeat (first | refine Zb (by omega) ?_ | refine Zj (by omega) ?_ | rw [Option.bind_some] | refine Zb rfl ?_ | refine Zj (by decide) ?_)
 all_goals rfl
theorem Zpn (h : Bs t (L.getD 0 RL.z) q) (k0 : (L.getD 0 RL.z).a0 = 1) (m : Mem b D kd F V W K kp) : stp now L ver wr ce mo r0 r1 er t 8 V W K kp N = some (.r0 (V.set (1 + (L.getD 0 RL.z).a3).toNat ⟨1, (L.getD 0 RL.z).a5⟩) W K 5 t 2 1048577 (L.getD 0 RL.z).a3 false [⟨(L.getD 0 RL.z).a0, (L.getD 0 RL.z).a1, (L.getD 0 RL.z).a2, (L.getD 0 RL.z).a3, (L.getD 0 RL.z).a4, (L.getD 0 RL.z).a5, (L.getD 0 RL.z).a6, (L.getD 0 RL.z).a7, (L.getD 0 RL.z).a8, (L.getD 0 RL.z).a9, (L.getD 0 RL.z).a10, (L.getD 0 RL.z).a11, (V.getD (1 + (L.getD 0 RL.z).a3).toNat RH.z).a0, (V.getD (1 + (L.getD 0 RL.z).a3).toNat RH.z).a1, 0, (L.getD 0 RL.z).a15⟩] ver true ce mo r0 r1 er 9 kp) := by
 have wl := m.wk.wl; have h1 := h.rk; have h2 := h.rn; have hk := h.kk; have f8 := h.f8; have f10 := h.f10
 have h5 : 0 ≤ (L.getD 0 RL.z).a0 := by omega
 have h6 : (L.getD 0 RL.z).a0 ≤ 1 := by omega
 have hl := Zjr (N := N) m.vl f8 f10
 have hv : (L.getD 0 RL.z).a4 = 1 := by omega
 have hs := ZoC (N := N) (n := (L.getD 0 RL.z).a5) m.vl f8 f10 (by omega) (by omega)
 have c0 := m.c0; have cb := m.cb; have bb := m.bb
 have hw : IntKind.i64.wrap (1000 - kp) = 1000 - kp := w64 (by omega) (by omega)
 unfold stp Zz
 rw [h1, h2, hv, Zhw, hl, hw, hs]
 repeat (first | refine Zb (by omega) ?_ | refine Zj (by omega) ?_ | rw [Option.bind_some] | refine Zb rfl ?_ | refine Zj (by decide) ?_)
 all_goals rfl
theorem Zpo (h : Bs t (L.getD 0 RL.z) q) (m : Mem b D kd F V W K kp) : stp now L ver wr ce mo r0 r1 er t 9 V W K kp N = some (.r0 V W K 8 t 0 0 0 false L (kp + 1) wr true now 0 0 0 10 (kp + 1)) := by
 have wl := m.wk.wl; have h1 := h.rk; have h2 := h.rn; have hk := h.kk; have f8 := h.f8; have f10 := h.f10
 have h5 : 0 ≤ (L.getD 0 RL.z).a0 := by omega
 have h6 : (L.getD 0 RL.z).a0 ≤ 1 := by omega
 have c0 := m.c0; have cb := m.cb; have bb := m.bb
 have hw : IntKind.i64.wrap (kp + 1) = kp + 1 := w64 (by omega) (by omega)
 unfold stp Zz
 rw [h1, h2, hw]
 repeat (first | refine Zb (by omega) ?_ | refine Zj (by omega) ?_ | rw [Option.bind_some] | refine Zb rfl ?_ | refine Zj (by decide) ?_)
 all_goals rfl
theorem ZpW (h : Bs t (L.getD 0 RL.z) q) (hr : (L.getD 0 RL.z).a8 = 1) (v0 : 0 ≤ ver) (vb : ver ≤ 1000) (e : ¬ W.getD 1 0 % 4 = 0) (m : Mem b D kd F V W K kp) : stp now L ver wr ce mo r0 r1 er t 10 V W K kp N = some (.r0 V (W.set 1 (4 * ver)) K 7 t 0 0 0 true L ver wr ce mo r0 r1 er 0 kp) := by
 have wl := m.wk.wl; have h1 := h.rk; have h2 := h.rn; have hk := h.kk; have f8 := h.f8; have f10 := h.f10
 have h5 : 0 ≤ (L.getD 0 RL.z).a0 := by omega
 have h6 : (L.getD 0 RL.z).a0 ≤ 1 := by omega
 have ha := Zmy (N := N) m.wk v0 vb e
 unfold stp Zz
 rw [hr, ha, h1, h2]
 repeat (first | refine Zb (by omega) ?_ | refine Zj (by omega) ?_ | rw [Option.bind_some] | refine Zb rfl ?_ | refine Zj (by decide) ?_)
 all_goals rfl
theorem ZpX (h : Bs t (L.getD 0 RL.z) q) (hr : (L.getD 0 RL.z).a8 = 1) (v0 : 0 ≤ ver) (vb : ver ≤ 1000) (e : W.getD 1 0 % 4 = 0) (m : Mem b D kd F V W K kp) : stp now L ver wr ce mo r0 r1 er t 10 V W K kp N = some (.r0 V W K 7 t 0 0 0 true L ver wr ce mo r0 r1 er 0 kp) := by
 have wl := m.wk.wl; have h1 := h.rk; have h2 := h.rn; have hk := h.kk; have f8 := h.f8; have f10 := h.f10
 have h5 : 0 ≤ (L.getD 0 RL.z).a0 := by omega
 have h6 : (L.getD 0 RL.z).a0 ≤ 1 := by omega
 have ha := ZpN (N := N) m.wk v0 vb e
 unfold stp Zz
 rw [hr, ha, h1, h2]
 repeat (first | refine Zb (by omega) ?_ | refine Zj (by omega) ?_ | rw [Option.bind_some] | refine Zb rfl ?_ | refine Zj (by decide) ?_)
 all_goals rfl
theorem ZpY (h2 : q.a2 = 0) (m : Mem b D kd F V W K kp) : rst now q D kd F N = some (.r0 kd q.a0 q.a2 q.a3 q.a11 q.a12 q.a13 q.a14 q.a15 q.a16 q.a17 q.a18 q.a19 q.a20 q.a21 q.a22 0 0 0 0 0 false) := by
 have dl := m.dl
 unfold rst ZO
 repeat (first | refine Zb (by omega) ?_ | refine Zj (by omega) ?_ | rw [Option.bind_some] | refine Zb rfl ?_ | refine Zj (by decide) ?_)
 all_goals rfl
theorem ZpZ (h : Bas t k rk rn f vk vn q.a1 q.a2 q.a4 q.a5 q.a6 q.a7 q.a8) (h3 : q.a3 = 0) (m : Mem b D kd F V W K kp) : rst now q D kd F N = some (.r0 kd q.a0 q.a2 2 q.a11 q.a12 q.a13 q.a14 q.a15 q.a16 q.a17 q.a18 q.a19 q.a20 q.a21 q.a22 2 q.a1 0 0 0 false) := by
 have dl := m.dl
 have h2 := h.q2; have h4 := h.q4; have h5 := h.q5; have hk := h.kk; have f8 := h.f8; have f10 := h.f10; have h8 := h.q8; have h6 := h.q6; have h7 := h.q7
 have q0 : 0 ≤ q.a2 := by omega
 have q2' : q.a2 ≤ 2 := by omega
 have hv : ¬ q.a6 = 2 := by omega
 unfold rst ZO
 try rw [h4]
 try rw [h5]
 try rw [dl]
 try rw [Zgz]
 try rw [ZnT hv]
 rcases hk with hk | hk <;> repeat (first | refine Zb (by omega) ?_ | refine Zj (by omega) ?_ | rw [Option.bind_some] | refine Zb rfl ?_ | refine Zj (by decide) ?_)
 all_goals rfl
theorem Zqa (h : Bas t k rk rn f vk vn q.a1 q.a2 q.a4 q.a5 q.a6 q.a7 q.a8) (h3 : q.a3 = 2) (e : ¬ (D.getD 1 RI.z).a0 = 0) (m : Mem b D kd F V W K kp) : rst now q D kd F N = some (.r0 kd q.a0 q.a2 q.a3 q.a11 q.a12 q.a13 q.a14 q.a15 q.a16 q.a17 q.a18 q.a19 q.a20 q.a21 q.a22 14 q.a1 0 0 0 false) := by
 have dl := m.dl
 have h2 := h.q2; have h4 := h.q4; have h5 := h.q5; have hk := h.kk; have f8 := h.f8; have f10 := h.f10; have h8 := h.q8; have h6 := h.q6; have h7 := h.q7
 have q0 : 0 ≤ q.a2 := by omega
 have q2' : q.a2 ≤ 2 := by omega
 have ha := ZeP (N := N) m.dl
 unfold rst ZO
 try rw [h5]
 try rw [dl]
 try rw [t5]
 try rw [ha]
 try rw [h3]
 repeat (first | refine Zb (by omega) ?_ | refine Zj (by omega) ?_ | rw [Option.bind_some] | refine Zb rfl ?_ | refine Zj (by decide) ?_)
 all_goals rfl
theorem Zqb (h : Bas t k rk rn f vk vn q.a1 q.a2 q.a4 q.a5 q.a6 q.a7 q.a8) (h3 : q.a3 = 2) (k0 : k = 0) (e : (D.getD 1 RI.z).a0 = 0) (m : Mem b D kd F V W K kp) : rst now q D kd F N = some (.r0 kd q.a0 q.a2 3 (D.getD 1 RI.z).a0 (D.getD 1 RI.z).a1 (D.getD 1 RI.z).a2 q.a14 q.a15 q.a16 q.a17 q.a18 q.a19 q.a20 q.a21 q.a22 3 q.a1 0 0 0 false) := by
 have dl := m.dl
 have h2 := h.q2; have h4 := h.q4; have h5 := h.q5; have hk := h.kk; have f8 := h.f8; have f10 := h.f10; have h8 := h.q8; have h6 := h.q6; have h7 := h.q7
 have q0 : 0 ≤ q.a2 := by omega
 have q2' : q.a2 ≤ 2 := by omega
 have ha := ZeP (N := N) m.dl
 unfold rst ZO
 try rw [h5]
 try rw [dl]
 try rw [t5]
 try rw [ha]
 try rw [h3]
 repeat (first | refine Zb (by omega) ?_ | refine Zj (by omega) ?_ | rw [Option.bind_some] | refine Zb rfl ?_ | refine Zj (by decide) ?_)
 all_goals rfl
theorem Zqc (h : Bas t k rk rn f vk vn q.a1 q.a2 q.a4 q.a5 q.a6 q.a7 q.a8) (h3 : q.a3 = 2) (k0 : k = 1) (e : (D.getD 1 RI.z).a0 = 0) (m : Mem b D kd F V W K kp) : rst now q D kd F N = some (.r0 kd q.a0 q.a2 5 (D.getD 1 RI.z).a0 (D.getD 1 RI.z).a1 (D.getD 1 RI.z).a2 q.a14 q.a15 q.a16 q.a17 q.a18 q.a19 q.a20 q.a21 q.a22 3 q.a1 0 0 0 false) := by
 have dl := m.dl
 have h2 := h.q2; have h4 := h.q4; have h5 := h.q5; have hk := h.kk; have f8 := h.f8; have f10 := h.f10; have h8 := h.q8; have h6 := h.q6; have h7 := h.q7
 have q0 : 0 ≤ q.a2 := by omega
 have q2' : q.a2 ≤ 2 := by omega
 have ha := ZeP (N := N) m.dl
 unfold rst ZO
 try rw [h5]
 try rw [dl]
 try rw [t5]
 try rw [ha]
 try rw [h3]
 repeat (first | refine Zb (by omega) ?_ | refine Zj (by omega) ?_ | rw [Option.bind_some] | refine Zb rfl ?_ | refine Zj (by decide) ?_)
 all_goals rfl
theorem Zqd (h : Bas t k rk rn f vk vn q.a1 q.a2 q.a4 q.a5 q.a6 q.a7 q.a8) (h3 : q.a3 = 3) (k0 : k = 0) (m : Mem b D kd F V W K kp) : rst now q D kd F N = some (.r0 kd q.a0 q.a2 4 q.a11 q.a12 q.a13 (F.getD q.a8.toNat RH.z).a0 (F.getD q.a8.toNat RH.z).a1 q.a16 0 q.a18 q.a19 q.a20 q.a21 now 4 q.a1 q.a4 q.a5 q.a8 false) := by
 have dl := m.dl
 have h2 := h.q2; have h4 := h.q4; have h5 := h.q5; have hk := h.kk; have f8 := h.f8; have f10 := h.f10; have h8 := h.q8; have h6 := h.q6; have h7 := h.q7
 have q0 : 0 ≤ q.a2 := by omega
 have q2' : q.a2 ≤ 2 := by omega
 have g8 : 8 ≤ q.a8 := by omega
 have g10 : q.a8 ≤ 10 := by omega
 have hl := Zl0 (N := N) m.fl g8 g10
 unfold rst ZO
 try rw [h4]
 try rw [h5]
 try rw [Zgz]
 try rw [hl]
 try rw [h3]
 repeat (first | refine Zb (by omega) ?_ | refine Zj (by omega) ?_ | rw [Option.bind_some] | refine Zb rfl ?_ | refine Zj (by decide) ?_)
 all_goals rfl
theorem Zqe (h : Bas t k rk rn f vk vn q.a1 q.a2 q.a4 q.a5 q.a6 q.a7 q.a8) (h3 : q.a3 = 4) (e : ¬ ((D.getD 1 RI.z).a0 = q.a11 ∧ (D.getD 1 RI.z).a1 = q.a12 ∧ (D.getD 1 RI.z).a2 = q.a13)) (m : Mem b D kd F V W K kp) : rst now q D kd F N = some (.r0 kd q.a0 q.a2 2 q.a11 q.a12 q.a13 q.a14 q.a15 q.a16 q.a17 q.a18 q.a19 q.a20 q.a21 q.a22 3 q.a1 0 0 0 false) := by
 have dl := m.dl
 have h2 := h.q2; have h4 := h.q4; have h5 := h.q5; have hk := h.kk; have f8 := h.f8; have f10 := h.f10; have h8 := h.q8; have h6 := h.q6; have h7 := h.q7
 have q0 : 0 ≤ q.a2 := by omega
 have q2' : q.a2 ≤ 2 := by omega
 have ha := ZeP (N := N) m.dl
 unfold rst ZO
 try rw [h5]
 try rw [dl]
 try rw [t5]
 try rw [ha]
 try rw [h3]
 repeat (first | refine Zb (by omega) ?_ | refine Zj (by omega) ?_ | rw [Option.bind_some] | refine Zb rfl ?_ | refine Zj (by decide) ?_)
 all_goals rfl
theorem Zqf (h : Bas t k rk rn f vk vn q.a1 q.a2 q.a4 q.a5 q.a6 q.a7 q.a8) (h3 : q.a3 = 4) (e : (D.getD 1 RI.z).a0 = q.a11 ∧ (D.getD 1 RI.z).a1 = q.a12 ∧ (D.getD 1 RI.z).a2 = q.a13) (m : Mem b D kd F V W K kp) : rst now q D kd F N = some (.r0 kd false 0 q.a3 q.a11 q.a12 q.a13 q.a14 q.a15 q.a16 q.a17 q.a14 q.a15 q.a17 true q.a22 3 q.a1 0 0 0 true) := by
 have dl := m.dl
 have h2 := h.q2; have h4 := h.q4; have h5 := h.q5; have hk := h.kk; have f8 := h.f8; have f10 := h.f10; have h8 := h.q8; have h6 := h.q6; have h7 := h.q7
 have q0 : 0 ≤ q.a2 := by omega
 have q2' : q.a2 ≤ 2 := by omega
 have ha := ZeP (N := N) m.dl
 unfold rst ZO
 try rw [h5]
 try rw [dl]
 try rw [t5]
 try rw [ha]
 try rw [h3]
 repeat (first | refine Zb (by omega) ?_ | refine Zj (by omega) ?_ | rw [Option.bind_some] | refine Zb rfl ?_ | refine Zj (by decide) ?_)
 all_goals rfl
theorem Zpp (h : Bas t k rk rn f vk vn q.a1 q.a2 q.a4 q.a5 q.a6 q.a7 q.a8) (h3 : q.a3 = 5) (t0 : 0 ≤ q.a1) (tb : q.a1 ≤ 2) (e0 : (D.getD 1 RI.z).a0 = 0) (e : (D.getD 1 RI.z).a1 = q.a12) (m : Mem b D kd F V W K kp) : rst now q D kd F N = some (.r1 (D.set 1 ⟨2, q.a1, (D.getD 1 RI.z).a2 + 1⟩) q.a0 q.a2 6 q.a21 6 false) := by
 have dl := m.dl
 have h2 := h.q2; have h4 := h.q4; have h5 := h.q5; have hk := h.kk; have f8 := h.f8; have f10 := h.f10; have h8 := h.q8; have h6 := h.q6; have h7 := h.q7
 have q0 : 0 ≤ q.a2 := by omega
 have q2' : q.a2 ≤ 2 := by omega
 have k0 := m.wk.k0; have kb := m.wk.kb; have bb := m.bb; have d2 := m.d2
 have hw : IntKind.i64.wrap ((D.getD 1 RI.z).a2 + 1) = (D.getD 1 RI.z).a2 + 1 := w64 (by omega) (by omega)
 have ha := ZjO (N := N) (v := 2) (o := q.a1) m.dl (.inr rfl) t0 (by omega) e0 e
 unfold rst ZO
 try rw [h5]
 try rw [dl]
 try rw [t5]
 try rw [ha]
 try rw [t1]
 try rw [hw]
 try rw [h3]
 repeat (first | refine Zb (by omega) ?_ | refine Zj (by omega) ?_ | rw [Option.bind_some] | refine Zb rfl ?_ | refine Zj (by decide) ?_)
 all_goals rfl
theorem Zpq (h : Bas t k rk rn f vk vn q.a1 q.a2 q.a4 q.a5 q.a6 q.a7 q.a8) (h3 : q.a3 = 5) (e : ¬ ((D.getD 1 RI.z).a0 = 0 ∧ (D.getD 1 RI.z).a1 = q.a12)) (m : Mem b D kd F V W K kp) : rst now q D kd F N = some (.r0 kd q.a0 q.a2 2 q.a11 q.a12 q.a13 q.a14 q.a15 q.a16 q.a17 q.a18 q.a19 q.a20 q.a21 q.a22 6 q.a1 0 0 0 false) := by
 have dl := m.dl
 have h2 := h.q2; have h4 := h.q4; have h5 := h.q5; have hk := h.kk; have f8 := h.f8; have f10 := h.f10; have h8 := h.q8; have h6 := h.q6; have h7 := h.q7
 have q0 : 0 ≤ q.a2 := by omega
 have q2' : q.a2 ≤ 2 := by omega
 have ha := Zly (N := N) (v := 2) (o := q.a1) m.dl e
 unfold rst ZO
 try rw [h5]
 try rw [dl]
 try rw [t5]
 try rw [ha]
 try rw [h3]
 repeat (first | refine Zb (by omega) ?_ | refine Zj (by omega) ?_ | rw [Option.bind_some] | refine Zb rfl ?_ | refine Zj (by decide) ?_)
 all_goals rfl
theorem Zpr (h : Bas t k rk rn f vk vn q.a1 q.a2 q.a4 q.a5 q.a6 q.a7 q.a8) (h3 : q.a3 = 6) (k0 : k = 1) (m : Mem b D kd F V W K kp) : rst now q D kd F N = some (.r2 (F.getD q.a8.toNat RH.z).a0 (F.getD q.a8.toNat RH.z).a1) := by
 have dl := m.dl
 have h2 := h.q2; have h4 := h.q4; have h5 := h.q5; have hk := h.kk; have f8 := h.f8; have f10 := h.f10; have h8 := h.q8; have h6 := h.q6; have h7 := h.q7
 have q0 : 0 ≤ q.a2 := by omega
 have q2' : q.a2 ≤ 2 := by omega
 have g8 : 8 ≤ q.a8 := by omega
 have g10 : q.a8 ≤ 10 := by omega
 have hl := Zl0 (N := N) m.fl g8 g10
 have c := m.c; have c0 := m.c0; have cb := m.cb; have bb := m.bb
 have hv : q.a6 = 1 := by omega
 have hs := ZnU (N := N) (n := q.a7) m.fl g8 g10 (by omega) (by omega)
 unfold rst ZO
 try rw [h4]
 try rw [h5]
 try rw [hv]
 try rw [Zgz]
 try rw [hl]
 try rw [hs]
 try rw [h3]
 repeat (first | refine Zb (by omega) ?_ | refine Zj (by omega) ?_ | rw [Option.bind_some] | refine Zb rfl ?_ | refine Zj (by decide) ?_)
 all_goals rfl
theorem Zps (h : Bas t k rk rn f vk vn q.a1 q.a2 q.a4 q.a5 q.a6 q.a7 q.a8) (h3 : q.a3 = 7) (m : Mem b D kd F V W K kp) : rst now q D kd F N = some (.r0 (kd + 1) q.a0 q.a2 8 q.a11 q.a12 q.a13 q.a14 q.a15 q.a16 (kd + 1) q.a18 q.a19 q.a20 true now 8 q.a1 0 0 0 false) := by
 have dl := m.dl
 have h2 := h.q2; have h4 := h.q4; have h5 := h.q5; have hk := h.kk; have f8 := h.f8; have f10 := h.f10; have h8 := h.q8; have h6 := h.q6; have h7 := h.q7
 have q0 : 0 ≤ q.a2 := by omega
 have q2' : q.a2 ≤ 2 := by omega
 have c := m.c; have c0 := m.c0; have cb := m.cb; have bb := m.bb
 have hw : IntKind.i64.wrap (kd + 1) = kd + 1 := w64 (by omega) (by omega)
 unfold rst ZO
 try rw [h3]
 try rw [hw]
 repeat (first | refine Zb (by omega) ?_ | refine Zj (by omega) ?_ | rw [Option.bind_some] | refine Zb rfl ?_ | refine Zj (by decide) ?_)
 all_goals rfl
theorem Zqg (h : Bas t k rk rn f vk vn q.a1 q.a2 q.a4 q.a5 q.a6 q.a7 q.a8) (h3 : q.a3 = 8) (v0 : 0 ≤ q.a17) (vb : q.a17 ≤ 1000) (e : ¬ (D.getD 1 RI.z).a0 = 0) (m : Mem b D kd F V W K kp) : rst now q D kd F N = some (.r1 (D.set 1 ⟨0, q.a17, (D.getD 1 RI.z).a2⟩) false 0 8 true 7 true) := by
 have dl := m.dl
 have h2 := h.q2; have h4 := h.q4; have h5 := h.q5; have hk := h.kk; have f8 := h.f8; have f10 := h.f10; have h8 := h.q8; have h6 := h.q6; have h7 := h.q7
 have q0 : 0 ≤ q.a2 := by omega
 have q2' : q.a2 ≤ 2 := by omega
 have k0 := m.wk.k0; have d2 := m.d2
 have ha := Zlz (N := N) m.dl v0 vb e (by omega)
 unfold rst ZO
 try rw [h5]
 try rw [dl]
 try rw [t5]
 try rw [ha]
 try rw [t1]
 try rw [h3]
 repeat (first | refine Zb (by omega) ?_ | refine Zj (by omega) ?_ | rw [Option.bind_some] | refine Zb rfl ?_ | refine Zj (by decide) ?_)
 all_goals rfl
theorem Zqh (h : Bas t k rk rn f vk vn q.a1 q.a2 q.a4 q.a5 q.a6 q.a7 q.a8) (h3 : q.a3 = 8) (e : (D.getD 1 RI.z).a0 = 0) (m : Mem b D kd F V W K kp) : rst now q D kd F N = some (.r0 kd false 0 q.a3 q.a11 q.a12 q.a13 q.a14 q.a15 q.a16 q.a17 q.a18 q.a19 q.a20 true q.a22 7 q.a1 0 0 0 true) := by
 have dl := m.dl
 have h2 := h.q2; have h4 := h.q4; have h5 := h.q5; have hk := h.kk; have f8 := h.f8; have f10 := h.f10; have h8 := h.q8; have h6 := h.q6; have h7 := h.q7
 have q0 : 0 ≤ q.a2 := by omega
 have q2' : q.a2 ≤ 2 := by omega
 have ha := Zpk (N := N) (v := q.a17) m.dl e
 unfold rst ZO
 try rw [h5]
 try rw [dl]
 try rw [t5]
 try rw [ha]
 try rw [h3]
 repeat (first | refine Zb (by omega) ?_ | refine Zj (by omega) ?_ | rw [Option.bind_some] | refine Zb rfl ?_ | refine Zj (by decide) ?_)
 all_goals rfl
end
end Po1
set_option linter.unusedVariables false
set_option linter.unusedSimpArgs false
set_option maxRecDepth 100000
set_option maxHeartbeats 4000000
namespace Po1
def qOf (q : RQ) : Zt → RQ
 | .r0 y0 y1 y2 y3 y4 y5 y6 y7 y8 y9 y10 y11 y12 y13 y14 y15 y16 y17 y18 y19 y20 y21 => ⟨y1, q.a1, y2, y3, q.a4, q.a5, q.a6, q.a7, q.a8, q.a9, q.a10, y4, y5, y6, y7, y8, y9, y10, y11, y12, y13, y14, y15⟩
 | .r1 y0 y1 y2 y3 y4 y5 y6 => ⟨y1, q.a1, y2, y3, q.a4, q.a5, q.a6, q.a7, q.a8, q.a9, q.a10, q.a11, q.a12, q.a13, q.a14, q.a15, q.a16, q.a17, q.a18, q.a19, q.a20, y4, q.a22⟩
 | .r2 y0 y1 => ⟨q.a0, q.a1, q.a2, 7, q.a4, q.a5, q.a6, q.a7, q.a8, q.a9, q.a10, q.a11, q.a12, q.a13, y0, y1, true, q.a17, q.a18, q.a19, q.a20, q.a21, q.a22⟩
def dOf (D : List RI) : Zt → List RI
 | .r1 y0 _ _ _ _ _ _ => y0
 | _ => D
def kOf (kd : Int) : Zt → Int
 | .r0 y0 _ _ _ _ _ _ _ _ _ _ _ _ _ _ _ _ _ _ _ _ _ => y0
 | _ => kd
def fOf (q : RQ) (F : List RH) : Zt → List RH
 | .r2 _ _ => F.set q.a8.toNat ⟨q.a6, q.a7⟩
 | _ => F
def Ziu (W K W' K' : Int) : Prop := K < K' ∨ K' = K ∧ (W' = W ∨ ¬ W % 4 = 0)
theorem ZcD {t W K W' K' : Int} {a : RH} {fr : Bool} {X : RM} {ver p : Int} {q : RQ} (h : TI t W K a fr X ver p q) (m : Ziu W K W' K') : TI t W' K' a fr X ver p q := by
 cases h with
 | idle hp h k0 k1 hq => exact .idle hp h k0 k1 hq
 | look hp b h3 => exact .look hp b h3
 | ask hp b h3 hr => exact .ask hp b h3 hr
 | read hp b h3 w k0 h h' =>
  refine .read hp b h3 w k0 ?_ ?_
  ·rcases m with m | m <;> omega
  ·intro e
   rcases m with m | ⟨m, m' | m'⟩
   ·omega
   ·rw [m']; exact h' (by omega)
   ·have := h' (by omega); omega
 | again hp b h3 w k0 h hf g1 g2 he =>
  refine .again hp b h3 w k0 ?_ ?_ g1 g2 he
  ·rcases m with m | m <;> omega
  ·intro e
   exact hf (by rcases m with m | m <;> omega)
 | take hp b h3 w k0 => exact .take hp b h3 w k0
 | write hp b h3 w k0 => exact .write hp b h3 w k0
 | count hp b h3 w k0 => exact .count hp b h3 w k0
 | let_ hp b h3 w k0 h17 v0 vb => exact .let_ hp b h3 w k0 h17 v0 vb
theorem g1 {α : Type} {l : List α} (h : l.length = 5) (v d : α) : (l.set 1 v).getD 1 d = v := Zb9 (by omega)
section
variable {b : Int} {D : List RI} {kd : Int} {F V : List RH} {W K : List Int} {kp : Int}
theorem Zac (m : Mem b D kd F V W K kp) (hb : b ≤ 199) : Mem (b + 1) D kd F V W K kp := by
 obtain ⟨⟨wl, kl, w0, wm, wb, ws, k0, kb, bb'⟩, dl, d0, d1, d2, fl, vl, c, c0, cb, bb⟩ := m
 exact ⟨⟨wl, kl, w0, wm, wb, ws, k0, by omega, by omega⟩, dl, d0, d1, d2, fl, vl, c, c0, by omega, by omega⟩
theorem ZoD {F' V' : List RH} (m : Mem b D kd F V W K kp) (hb : b ≤ 199) (hf : F'.length = F.length) (hv : V'.length = V.length) : Mem (b + 1) D kd F' V' W K kp := by
 obtain ⟨⟨wl, kl, w0, wm, wb, ws, k0, kb, bb'⟩, dl, d0, d1, d2, fl, vl, c, c0, cb, bb⟩ := m
 exact ⟨⟨wl, kl, w0, wm, wb, ws, k0, by omega, by omega⟩, dl, d0, d1, d2, by omega, by omega, c, c0, by omega, by omega⟩
theorem ZnV (m : Mem b D kd F V W K kp) (hb : b ≤ 199) : Mem (b + 1) D (kd + 1) F V W K (kp + 1) := by
 obtain ⟨⟨wl, kl, w0, wm, wb, ws, k0, kb, bb'⟩, dl, d0, d1, d2, fl, vl, c, c0, cb, bb⟩ := m
 exact ⟨⟨wl, kl, w0, wm, wb, ws, k0, by omega, by omega⟩, dl, d0, d1, d2, fl, vl, by omega, by omega, by omega, by omega⟩
theorem Zl1 {o o' v i : Int} (m : Mem b D kd F V W K kp) (hb : b ≤ 199) (hv : v = 1 ∨ v = 2) (h0 : 0 ≤ o) (h63 : o ≤ 63) (ho : o' = o) (hi : i = K.getD 1 0 + 1) : Mem (b + 1) (D.set 1 ⟨v, o', i⟩) kd F V (W.set 1 (4 * o + v)) (K.set 1 (K.getD 1 0 + 1)) kp := by
 obtain ⟨⟨wl, kl, w0, wm, wb, ws, k0, kb, bb'⟩, dl, d0, d1, d2, fl, vl, c, c0, cb, bb⟩ := m
 have e1 := g1 wl (4 * o + v) 0
 have e2 := g1 kl (K.getD 1 0 + 1) 0
 have e3 := g1 dl (⟨v, o', i⟩ : RI) RI.z
 refine ⟨⟨by rw [List.length_set]; exact wl, by rw [List.length_set]; exact kl, by rw [e1]; omega, by rw [e1]; omega, by rw [e1]; omega, by rw [e1]; omega, by rw [e2]; omega, by rw [e2]; omega, by omega⟩, by rw [List.length_set]; exact dl, ?_, ?_, ?_, fl, vl, c, c0, by omega, by omega⟩
 ·rw [e3, e1]; show v = _; omega
 ·rw [e3, e1]; show o' = _; omega
 ·rw [e3, e2]; exact hi
theorem Zmz {v v' i : Int} (m : Mem b D kd F V W K kp) (hb : b ≤ 199) (h0 : 0 ≤ v) (hv : v ≤ 1000) (e : v' = v) (hi : i = K.getD 1 0) : Mem (b + 1) (D.set 1 ⟨0, v', i⟩) kd F V (W.set 1 (4 * v)) K kp := by
 obtain ⟨⟨wl, kl, w0, wm, wb, ws, k0, kb, bb'⟩, dl, d0, d1, d2, fl, vl, c, c0, cb, bb⟩ := m
 have e1 := g1 wl (4 * v) 0
 have e3 := g1 dl (⟨0, v', i⟩ : RI) RI.z
 refine ⟨⟨by rw [List.length_set]; exact wl, kl, by rw [e1]; omega, by rw [e1]; omega, by rw [e1]; omega, by rw [e1]; omega, k0, by omega, by omega⟩, by rw [List.length_set]; exact dl, ?_, ?_, ?_, fl, vl, c, c0, by omega, by omega⟩
 ·rw [e3, e1]; show (0 : Int) = _; omega
 ·rw [e3, e1]; show v' = _; omega
 ·rw [e3]; exact hi
end
def ZdC (b t now : Int) (L : List RM) (ver : Int) (wr ce : Bool) (mo r0 r1 er p : Int) (q : RQ) (a : RH) (fr : Bool) (D : List RI) (kd : Int) (F V : List RH) (W K : List Int) (kp : Int) (N : Nat) : Prop :=
 ∃ (V' : List RH) (W' K' : List Int) (sk st s0 s1 sf : Int) (dn : Bool) (L' : List RM) (ver' : Int) (wr' ce' : Bool) (mo' r0' r1' er' p' kp' : Int) (a' : RH) (fr' : Bool) (res : Zt),
  stp now L ver wr ce mo r0 r1 er t p V W K kp N = some (.r0 V' W' K' sk st s0 s1 sf dn L' ver' wr' ce' mo' r0' r1' er' p' kp') ∧
  (sk = 4 ∧ s0 = 2 ∧ s1 = 1048577 ∧ 8 ≤ sf ∧ sf ≤ 10 ∧ V' = V ∧ W' = W ∧ K' = K ∧ a' = ⟨(V.getD (1 + sf).toNat RH.z).a0, (V.getD (1 + sf).toNat RH.z).a1⟩ ∧ fr' = decide (W.getD 1 0 % 4 = 0) ∨ ¬ sk = 4 ∧ a' = a ∧ fr' = fr) ∧
  rst now q D kd F N = some res ∧
  Mem (b + 1) (dOf D res) (kOf kd res) (fOf q F res) V' W' K' kp' ∧
  TI t (W'.getD 1 0) (K'.getD 1 0) a' fr' (L'.getD 0 RL.z) ver' p' (qOf q res) ∧
  Ziu (W.getD 1 0) (K.getD 1 0) (W'.getD 1 0) (K'.getD 1 0) ∧
  (dn = true → q.a2 = 1 → er' = 0 ∧ r0' = a'.a0 ∧ r1' = a'.a1 ∧ fr' = true)
section
variable {b t now : Int} {L : List RM} {ver : Int} {wr ce : Bool} {mo r0 r1 er p : Int} {q : RQ} {a : RH} {fr : Bool} {D : List RI} {kd : Int} {F V : List RH} {W K : List Int} {kp : Int} {N : Nat}
theorem Zqi (h2 : q.a2 = 0) (k0 : 0 ≤ (L.getD 0 RL.z).a0) (k1 : (L.getD 0 RL.z).a0 ≤ 1) (hq : q.a1 = t) (m : Mem b D kd F V W K kp) (hb : b ≤ 199) : ZdC b t now L ver wr ce mo r0 r1 er 0 q a fr D kd F V W K kp N := by
 exact ⟨_, _, _, _, _, _, _, _, _, _, _, _, _, _, _, _, _, _, _, a, fr, _, ZpO k0 k1 m, .inr ⟨by decide, rfl, rfl⟩, ZpY h2 m, Zac m hb, .idle rfl h2 k0 k1 hq, Or.inr ⟨rfl, .inl rfl⟩, fun h => nomatch h⟩
theorem Zqj (bq : Bs t (L.getD 0 RL.z) q) (h3 : q.a3 = 0) (m : Mem b D kd F V W K kp) (hb : b ≤ 199) : ZdC b t now L ver wr ce mo r0 r1 er 1 q a fr D kd F V W K kp N := by
 exact ⟨_, _, _, _, _, _, _, _, _, _, _, _, _, _, _, _, _, _, _, a, fr, _, ZpP bq m, .inr ⟨by decide, rfl, rfl⟩, ZpZ bq h3 m, Zac m hb, .ask rfl bq rfl rfl, Or.inr ⟨rfl, .inl rfl⟩, fun h => nomatch h⟩
theorem r_ask (bq : Bs t (L.getD 0 RL.z) q) (h3 : q.a3 = 2) (hr : (L.getD 0 RL.z).a8 = 1) (m : Mem b D kd F V W K kp) (hb : b ≤ 199) : ZdC b t now L ver wr ce mo r0 r1 er 4 q a fr D kd F V W K kp N := by
 have d0 := m.d0
 have w0 := m.wk.w0; have wb := m.wk.wb
 by_cases e : W.getD 1 0 % 4 = 0
 ·have e' : (D.getD 1 RI.z).a0 = 0 := by omega
  have hw : Was 1 (W.getD 1 0 % 4) (W.getD 1 0 / 4) (K.getD 1 0) (D.getD 1 RI.z).a0 (D.getD 1 RI.z).a1 (D.getD 1 RI.z).a2 := ⟨rfl, e, e', m.d1, m.d2, by omega, by omega⟩
  have hw' : Was (L.getD 0 RL.z).a8 (W.getD 1 0 % 4) (W.getD 1 0 / 4) (K.getD 1 0) (D.getD 1 RI.z).a0 (D.getD 1 RI.z).a1 (D.getD 1 RI.z).a2 := hr ▸ hw
  rcases bq.kk with ⟨k0, _⟩ | ⟨k0, _⟩
  ·exact ⟨_, _, _, _, _, _, _, _, _, _, _, _, _, _, _, _, _, _, _, a, fr, _, ZpR bq hr k0 e m, .inr ⟨by decide, rfl, rfl⟩, Zqb bq h3 k0 e' m, Zac m hb, .read rfl bq rfl hw' k0 (Int.le_refl _) (fun _ => show W.getD 1 0 = 4 * (W.getD 1 0 / 4) by omega), Or.inr ⟨rfl, .inl rfl⟩, fun h => nomatch h⟩
  ·exact ⟨_, _, _, _, _, _, _, _, _, _, _, _, _, _, _, _, _, _, _, a, fr, _, ZpS bq hr k0 e m, .inr ⟨by decide, rfl, rfl⟩, Zqc bq h3 k0 e' m, Zac m hb, .take rfl bq rfl hw' k0, Or.inr ⟨rfl, .inl rfl⟩, fun h => nomatch h⟩
 exact ⟨_, _, _, _, _, _, _, _, _, _, _, _, _, _, _, _, _, _, _, a, fr, _, ZpQ bq hr e m, .inr ⟨by decide, rfl, rfl⟩, Zqa bq h3 (by omega) m, Zac m hb, .ask rfl bq h3 hr, Or.inr ⟨rfl, .inl rfl⟩, fun h => nomatch h⟩
theorem Zqk (bq : Bs t (L.getD 0 RL.z) q) (w : Ws (L.getD 0 RL.z) q) (h3 : q.a3 = 3) (k0 : (L.getD 0 RL.z).a0 = 0) (h : (L.getD 0 RL.z).a11 ≤ K.getD 1 0) (h' : K.getD 1 0 = (L.getD 0 RL.z).a11 → W.getD 1 0 = 4 * (L.getD 0 RL.z).a10) (m : Mem b D kd F V W K kp) (hb : b ≤ 199) : ZdC b t now L ver wr ce mo r0 r1 er 5 q a fr D kd F V W K kp N := by
 exact ⟨_, _, _, _, _, _, _, _, _, _, _, _, _, _, _, _, _, _, _, ⟨(V.getD (1 + (L.getD 0 RL.z).a3).toNat RH.z).a0, (V.getD (1 + (L.getD 0 RL.z).a3).toNat RH.z).a1⟩, decide (W.getD 1 0 % 4 = 0), _, ZpT bq k0 m, .inl ⟨rfl, rfl, rfl, bq.f8, bq.f10, rfl, rfl, rfl, rfl, rfl⟩, Zqd bq h3 k0 m, Zac m hb, .again rfl bq rfl w k0 h (fun e => decide_eq_true (by have := h' e; omega)) rfl rfl rfl, Or.inr ⟨rfl, .inl rfl⟩, fun h => nomatch h⟩
theorem Zpt (bq : Bs t (L.getD 0 RL.z) q) (w : Ws (L.getD 0 RL.z) q) (h3 : q.a3 = 4) (k0 : (L.getD 0 RL.z).a0 = 0) (h : (L.getD 0 RL.z).a11 ≤ K.getD 1 0) (hf : K.getD 1 0 = (L.getD 0 RL.z).a11 → fr = true) (g1 : (L.getD 0 RL.z).a12 = a.a0) (g2 : (L.getD 0 RL.z).a13 = a.a1) (he : (L.getD 0 RL.z).a14 = 0) (m : Mem b D kd F V W K kp) (hb : b ≤ 199) : ZdC b t now L ver wr ce mo r0 r1 er 6 q a fr D kd F V W K kp N := by
 have d0 := m.d0; have d1 := m.d1; have d2 := m.d2
 have w1 := w.wk; have w2 := w.q11; have w3 := w.q12; have w4 := w.q13
 by_cases e : W.getD 1 0 % 4 = (L.getD 0 RL.z).a9 ∧ W.getD 1 0 / 4 = (L.getD 0 RL.z).a10 ∧ K.getD 1 0 = (L.getD 0 RL.z).a11
 ·exact ⟨_, _, _, _, _, _, _, _, _, _, _, _, _, _, _, _, _, _, _, a, fr, _, ZpV bq w.rc e he m, .inr ⟨by decide, rfl, rfl⟩, Zqf bq h3 (by omega) m, Zac m hb, .idle rfl rfl (by omega) (by omega) bq.q1, Or.inr ⟨rfl, .inl rfl⟩, fun _ _ => ⟨rfl, g1, g2, hf e.2.2⟩⟩
 exact ⟨_, _, _, _, _, _, _, _, _, _, _, _, _, _, _, _, _, _, _, a, fr, _, ZpU bq w.rc e m, .inr ⟨by decide, rfl, rfl⟩, Zqe bq h3 (by omega) m, Zac m hb, .ask rfl bq rfl w.rc, Or.inr ⟨rfl, .inl rfl⟩, fun h => nomatch h⟩
theorem Zql (bq : Bs t (L.getD 0 RL.z) q) (w : Ws (L.getD 0 RL.z) q) (h3 : q.a3 = 5) (k0 : (L.getD 0 RL.z).a0 = 1) (t0 : 0 ≤ t) (tb : t ≤ 2) (m : Mem b D kd F V W K kp) (hb : b ≤ 199) : ZdC b t now L ver wr ce mo r0 r1 er 7 q a fr D kd F V W K kp N := by
 have d0 := m.d0; have d1 := m.d1; have d2 := m.d2
 have w1 := w.wk; have w2 := w.q11; have w3 := w.q12; have w4 := w.q13; have w5 := w.w0; have w6 := w.wb; have hq := bq.q1
 by_cases e : W.getD 1 0 = 4 * (L.getD 0 RL.z).a10
 ·exact ⟨_, _, _, _, _, _, _, _, _, _, _, _, _, _, _, _, _, _, _, a, fr, _, Zpl bq w.rc w5 w6 t0 tb e m, .inr ⟨by decide, rfl, rfl⟩, Zpp bq h3 (by omega) (by omega) (by omega) (by omega) m, Zl1 m hb (.inr rfl) t0 (by omega) hq (by omega), .write rfl bq rfl w k0, .inl (by rw [Po1.g1 m.wk.kl]; omega), fun h => nomatch h⟩
 exact ⟨_, _, _, _, _, _, _, _, _, _, _, _, _, _, _, _, _, _, _, a, fr, _, Zpm bq w.rc w5 w6 t0 tb e m, .inr ⟨by decide, rfl, rfl⟩, Zpq bq h3 (by omega) m, Zac m hb, .ask rfl bq rfl w.rc, Or.inr ⟨rfl, .inl rfl⟩, fun h => nomatch h⟩
theorem Zpu (bq : Bs t (L.getD 0 RL.z) q) (w : Ws (L.getD 0 RL.z) q) (h3 : q.a3 = 6) (k0 : (L.getD 0 RL.z).a0 = 1) (m : Mem b D kd F V W K kp) (hb : b ≤ 199) : ZdC b t now L ver wr ce mo r0 r1 er 8 q a fr D kd F V W K kp N := by
 exact ⟨_, _, _, _, _, _, _, _, _, _, _, _, _, _, _, _, _, _, _, a, fr, _, Zpn bq k0 m, .inr ⟨by decide, rfl, rfl⟩, Zpr bq h3 k0 m, ZoD m hb (List.length_set ..) (List.length_set ..), .count rfl bq rfl w k0, Or.inr ⟨rfl, .inl rfl⟩, fun h => nomatch h⟩
theorem Zpv (bq : Bs t (L.getD 0 RL.z) q) (w : Ws (L.getD 0 RL.z) q) (h3 : q.a3 = 7) (k0 : (L.getD 0 RL.z).a0 = 1) (m : Mem b D kd F V W K kp) (hb : b ≤ 199) : ZdC b t now L ver wr ce mo r0 r1 er 9 q a fr D kd F V W K kp N := by
 have c := m.c; have c0 := m.c0; have cb := m.cb; have bb := m.bb
 exact ⟨_, _, _, _, _, _, _, _, _, _, _, _, _, _, _, _, _, _, _, a, fr, _, Zpo bq m, .inr ⟨by decide, rfl, rfl⟩, Zps bq h3 m, ZnV m hb, .let_ rfl bq rfl w k0 (show kd + 1 = kp + 1 by omega) (by omega) (by omega), Or.inr ⟨rfl, .inl rfl⟩, fun h => nomatch h⟩
theorem r_let (bq : Bs t (L.getD 0 RL.z) q) (w : Ws (L.getD 0 RL.z) q) (h3 : q.a3 = 8) (k0 : (L.getD 0 RL.z).a0 = 1) (h17 : q.a17 = ver) (v0 : 0 ≤ ver) (vb : ver ≤ 1000) (m : Mem b D kd F V W K kp) (hb : b ≤ 199) : ZdC b t now L ver wr ce mo r0 r1 er 10 q a fr D kd F V W K kp N := by
 have d0 := m.d0; have d1 := m.d1; have d2 := m.d2; have q2 := bq.q2
 by_cases e : W.getD 1 0 % 4 = 0
 ·exact ⟨_, _, _, _, _, _, _, _, _, _, _, _, _, _, _, _, _, _, _, a, fr, _, ZpX bq w.rc v0 vb e m, .inr ⟨by decide, rfl, rfl⟩, Zqh bq h3 (by omega) m, Zac m hb, .idle rfl rfl (by omega) (by omega) bq.q1, Or.inr ⟨rfl, .inl rfl⟩, fun _ h => by omega⟩
 exact ⟨_, _, _, _, _, _, _, _, _, _, _, _, _, _, _, _, _, _, _, a, fr, _, ZpW bq w.rc v0 vb e m, .inr ⟨by decide, rfl, rfl⟩, Zqg bq h3 (by omega) (by omega) (by omega) m, Zmz m hb v0 vb h17 (by omega), .idle rfl rfl (by omega) (by omega) bq.q1, .inr ⟨rfl, .inr e⟩, fun _ h => by omega⟩
theorem Ziv (h : TI t (W.getD 1 0) (K.getD 1 0) a fr (L.getD 0 RL.z) ver p q) (m : Mem b D kd F V W K kp) (hb : b ≤ 199) (t0 : 0 ≤ t) (tb : t ≤ 2) : ZdC b t now L ver wr ce mo r0 r1 er p q a fr D kd F V W K kp N := by
 cases h with
 | idle hp h k0 k1 hq => subst hp; exact Zqi h k0 k1 hq m hb
 | look hp bq h3 => subst hp; exact Zqj bq h3 m hb
 | ask hp bq h3 hr => subst hp; exact r_ask bq h3 hr m hb
 | read hp bq h3 w k0 h h' => subst hp; exact Zqk bq w h3 k0 h h' m hb
 | again hp bq h3 w k0 h hf g1 g2 he => subst hp; exact Zpt bq w h3 k0 h hf g1 g2 he m hb
 | take hp bq h3 w k0 => subst hp; exact Zql bq w h3 k0 t0 tb m hb
 | write hp bq h3 w k0 => subst hp; exact Zpu bq w h3 k0 m hb
 | count hp bq h3 w k0 => subst hp; exact Zpv bq w h3 k0 m hb
 | let_ hp bq h3 w k0 h17 v0 vb => subst hp; exact r_let bq w h3 k0 h17 v0 vb m hb
end
end Po1
set_option linter.unusedVariables false
set_option linter.unusedSimpArgs false
set_option maxRecDepth 100000
set_option maxHeartbeats 4000000
namespace Po1
structure Inv (i : Nat) (at_ : List RH) (fr : List Bool) (D : List RI) (kd : Int) (Q : List RQ) (now : Nat) (Lx0 Lx1 Lx2 : List RM) (ve0 ve1 ve2 ph0 ph1 ph2 : Int) (F V : List RH) (W K : List Int) (kp : Int) : Prop where
 la : at_.length = 3
 lf : fr.length = 3
 lq : Q.length = 3
 nw : now ≤ i
 m : Mem (i : Int) D kd F V W K kp
 t0 : TI 0 (W.getD 1 0) (K.getD 1 0) (at_.getD 0 RH.z) (fr.getD 0 false) (Lx0.getD 0 RL.z) ve0 ph0 (Q.getD 0 Rqx.z)
 t1 : TI 1 (W.getD 1 0) (K.getD 1 0) (at_.getD 1 RH.z) (fr.getD 1 false) (Lx1.getD 0 RL.z) ve1 ph1 (Q.getD 1 Rqx.z)
 t2 : TI 2 (W.getD 1 0) (K.getD 1 0) (at_.getD 2 RH.z) (fr.getD 2 false) (Lx2.getD 0 RL.z) ve2 ph2 (Q.getD 2 Rqx.z)
inductive G (i : Nat) : Zf → Prop where
 | mk {at_ : List RH} {fr : List Bool} {now : Nat} {D : List RI} {kd : Int} {Q : List RQ} {Lx0 Lx1 Lx2 : List RM} {ve0 ve1 ve2 : Int} {wr0 ce0 wr1 ce1 wr2 ce2 : Bool} {mo0 ra0 rb0 er0 ph0 mo1 ra1 rb1 er1 ph1 mo2 ra2 rb2 er2 ph2 : Int} {F V : List RH} {W K : List Int} {kp : Int} (h : Inv i at_ fr D kd Q now Lx0 Lx1 Lx2 ve0 ve1 ve2 ph0 ph1 ph2 F V W K kp) : G i (.h1m0 at_ fr i D kd Q now Lx0 ve0 wr0 ce0 mo0 ra0 rb0 er0 ph0 Lx1 ve1 wr1 ce1 mo1 ra1 rb1 er1 ph1 Lx2 ve2 wr2 ce2 mo2 ra2 rb2 er2 ph2 F V W K kp)
section
variable {L0 : List RK} {N : Nat} {at_ : List RH} {fr : List Bool} {i now : Nat} {D : List RI} {kd : Int} {Q : List RQ} {Lx0 Lx1 Lx2 : List RM} {ve0 ve1 ve2 : Int} {wr0 ce0 wr1 ce1 wr2 ce2 : Bool} {mo0 ra0 rb0 er0 ph0 mo1 ra1 rb1 er1 ph1 mo2 ra2 rb2 er2 ph2 : Int} {F V : List RH} {W K : List Int} {kp : Int}
theorem Zkm {i : Nat} {b : Int} {D : List RI} {kd : Int} {F V : List RH} {W K : List Int} {kp : Int} (m : Mem ((i : Int) + 1) D kd F V W K kp) : Mem (((i + 1 : Nat)) : Int) D kd F V W K kp := by
 rw [show (((i + 1 : Nat)) : Int) = (i : Int) + 1 by omega]; exact m
theorem Zl2 {at2 : List RH} {fr2 : List Bool} {D' : List RI} {kd' : Int} {F' V' : List RH} {W' K' : List Int} {kp' : Int} {L' : List RM} {e' p' : Int} {q' : RQ} {now' : Nat} (h : Inv i at_ fr D kd Q now Lx0 Lx1 Lx2 ve0 ve1 ve2 ph0 ph1 ph2 F V W K kp) (m' : Mem ((i : Int) + 1) D' kd' F' V' W' K' kp') (mo : Ziu (W.getD 1 0) (K.getD 1 0) (W'.getD 1 0) (K'.getD 1 0)) (hat : at2.length = 3) (hfr : fr2.length = 3) (ha : ∀ j, j ≠ 0 → at2.getD j RH.z = at_.getD j RH.z ∧ fr2.getD j false = fr.getD j false) (hti : TI 0 (W'.getD 1 0) (K'.getD 1 0) (at2.getD 0 RH.z) (fr2.getD 0 false) (L'.getD 0 RL.z) e' p' q') (hn : now' ≤ i + 1) : Inv (i + 1) at2 fr2 D' kd' (Q.set 0 q') now' L' Lx1 Lx2 e' ve1 ve2 p' ph1 ph2 F' V' W' K' kp' := by
 have lq := h.lq
 refine ⟨hat, hfr, by rw [List.length_set]; exact lq, hn, Zkm (b := 0) m', ?_, ?_, ?_⟩
 ·rw [Zb9 (by omega)]; exact hti
 ·rw [Zbz (by decide), (ha 1 (by decide)).1, (ha 1 (by decide)).2]; exact ZcD h.t1 mo
 ·rw [Zbz (by decide), (ha 2 (by decide)).1, (ha 2 (by decide)).2]; exact ZcD h.t2 mo
theorem Zl3 {at2 : List RH} {fr2 : List Bool} {D' : List RI} {kd' : Int} {F' V' : List RH} {W' K' : List Int} {kp' : Int} {L' : List RM} {e' p' : Int} {q' : RQ} {now' : Nat} (h : Inv i at_ fr D kd Q now Lx0 Lx1 Lx2 ve0 ve1 ve2 ph0 ph1 ph2 F V W K kp) (m' : Mem ((i : Int) + 1) D' kd' F' V' W' K' kp') (mo : Ziu (W.getD 1 0) (K.getD 1 0) (W'.getD 1 0) (K'.getD 1 0)) (hat : at2.length = 3) (hfr : fr2.length = 3) (ha : ∀ j, j ≠ 1 → at2.getD j RH.z = at_.getD j RH.z ∧ fr2.getD j false = fr.getD j false) (hti : TI 1 (W'.getD 1 0) (K'.getD 1 0) (at2.getD 1 RH.z) (fr2.getD 1 false) (L'.getD 0 RL.z) e' p' q') (hn : now' ≤ i + 1) : Inv (i + 1) at2 fr2 D' kd' (Q.set 1 q') now' Lx0 L' Lx2 ve0 e' ve2 ph0 p' ph2 F' V' W' K' kp' := by
 have lq := h.lq
 refine ⟨hat, hfr, by rw [List.length_set]; exact lq, hn, Zkm (b := 0) m', ?_, ?_, ?_⟩
 ·rw [Zbz (by decide), (ha 0 (by decide)).1, (ha 0 (by decide)).2]; exact ZcD h.t0 mo
 ·rw [Zb9 (by omega)]; exact hti
 ·rw [Zbz (by decide), (ha 2 (by decide)).1, (ha 2 (by decide)).2]; exact ZcD h.t2 mo
theorem Zl4 {at2 : List RH} {fr2 : List Bool} {D' : List RI} {kd' : Int} {F' V' : List RH} {W' K' : List Int} {kp' : Int} {L' : List RM} {e' p' : Int} {q' : RQ} {now' : Nat} (h : Inv i at_ fr D kd Q now Lx0 Lx1 Lx2 ve0 ve1 ve2 ph0 ph1 ph2 F V W K kp) (m' : Mem ((i : Int) + 1) D' kd' F' V' W' K' kp') (mo : Ziu (W.getD 1 0) (K.getD 1 0) (W'.getD 1 0) (K'.getD 1 0)) (hat : at2.length = 3) (hfr : fr2.length = 3) (ha : ∀ j, j ≠ 2 → at2.getD j RH.z = at_.getD j RH.z ∧ fr2.getD j false = fr.getD j false) (hti : TI 2 (W'.getD 1 0) (K'.getD 1 0) (at2.getD 2 RH.z) (fr2.getD 2 false) (L'.getD 0 RL.z) e' p' q') (hn : now' ≤ i + 1) : Inv (i + 1) at2 fr2 D' kd' (Q.set 2 q') now' Lx0 Lx1 L' ve0 ve1 e' ph0 ph1 p' F' V' W' K' kp' := by
 have lq := h.lq
 refine ⟨hat, hfr, by rw [List.length_set]; exact lq, hn, Zkm (b := 0) m', ?_, ?_, ?_⟩
 ·rw [Zbz (by decide), (ha 0 (by decide)).1, (ha 0 (by decide)).2]; exact ZcD h.t0 mo
 ·rw [Zbz (by decide), (ha 1 (by decide)).1, (ha 1 (by decide)).2]; exact ZcD h.t1 mo
 ·rw [Zb9 (by omega)]; exact hti
theorem Znj {D' : List RI} {W' K' : List Int} (h : Inv i at_ fr D kd Q now Lx0 Lx1 Lx2 ve0 ve1 ve2 ph0 ph1 ph2 F V W K kp) (m' : Mem ((i : Int) + 1) D' kd F V W' K' kp) (mo : Ziu (W.getD 1 0) (K.getD 1 0) (W'.getD 1 0) (K'.getD 1 0)) : Inv (i + 1) at_ fr D' kd Q now Lx0 Lx1 Lx2 ve0 ve1 ve2 ph0 ph1 ph2 F V W' K' kp :=
 ⟨h.la, h.lf, h.lq, by have := h.nw; omega, Zkm (b := 0) m', ZcD h.t0 mo, ZcD h.t1 mo, ZcD h.t2 mo⟩
theorem Zjs {v4 : Int} {dn : Bool} {Qo : List RQ} {sk st s0 s1 sf : Int} {a' : RH} {fr' : Bool} {b : Int} (wk : WK W K b) (vl : V.length = 17) (h4 : 0 ≤ v4) (h4' : v4 ≤ 2) (la : at_.length = 3) (lf : fr.length = 3) (h : sk = 4 ∧ s0 = 2 ∧ s1 = 1048577 ∧ 8 ≤ sf ∧ sf ≤ 10 ∧ a' = ⟨(V.getD (1 + sf).toNat RH.z).a0, (V.getD (1 + sf).toNat RH.z).a1⟩ ∧ fr' = decide ((W.getD 1 0) % 4 = 0) ∨ ¬ sk = 4 ∧ a' = at_.getD v4.toNat RH.z ∧ fr' = fr.getD v4.toNat false) :
  ∃ (at2 : List RH) (fr2 : List Bool), Zi L0 N (.h3m0 at_ fr i v4 dn D kd Q now Qo sk st s0 s1 sf Lx0 ve0 wr0 ce0 mo0 ra0 rb0 er0 ph0 Lx1 ve1 wr1 ce1 mo1 ra1 rb1 er1 ph1 Lx2 ve2 wr2 ce2 mo2 ra2 rb2 er2 ph2 F V W K kp) = some (.inl (.h4m0 at2 fr2 i v4 dn D kd Q now Qo Lx0 ve0 wr0 ce0 mo0 ra0 rb0 er0 ph0 Lx1 ve1 wr1 ce1 mo1 ra1 rb1 er1 ph1 Lx2 ve2 wr2 ce2 mo2 ra2 rb2 er2 ph2 F V W K kp)) ∧ at2.length = 3 ∧ fr2.length = 3 ∧ at2.getD v4.toNat RH.z = a' ∧ fr2.getD v4.toNat false = fr' ∧ ∀ j, j ≠ v4.toNat → at2.getD j RH.z = at_.getD j RH.z ∧ fr2.getD j false = fr.getD j false := by
 rcases h with ⟨rfl, rfl, rfl, f8, f10, rfl, rfl⟩ | ⟨hk, rfl, rfl⟩
 ·have hl := Zjr (N := N) vl f8 f10
  have ha := Zfg (N := N) wk
  have wl := wk.wl
  refine ⟨at_.set v4.toNat ⟨(V.getD (1 + sf).toNat RH.z).a0, (V.getD (1 + sf).toNat RH.z).a1⟩, fr.set v4.toNat (decide ((W.getD 1 0) % 4 = 0)), ?_, by rw [List.length_set]; exact la, by rw [List.length_set]; exact lf, Zb9 (by omega), Zb9 (by omega), fun j hj => ⟨Zbz (fun e => hj e.symm), Zbz (fun e => hj e.symm)⟩⟩
  show ZaE L0 N at_ fr i v4 dn D kd Q now Qo 4 st 2 1048577 sf Lx0 ve0 wr0 ce0 mo0 ra0 rb0 er0 ph0 Lx1 ve1 wr1 ce1 mo1 ra1 rb1 er1 ph1 Lx2 ve2 wr2 ce2 mo2 ra2 rb2 er2 ph2 F V W K kp = _
  unfold ZaE
  rw [wl, t5, hl, ha]
  by_cases e : (W.getD 1 0) % 4 = 0
  ·rw [decide_eq_true e]
   repeat (first | refine Zb (by omega) ?_ | refine Zj (by omega) ?_ | rw [Option.bind_some])
   all_goals rfl
  ·rw [decide_eq_false e]
   repeat (first | refine Zb (by omega) ?_ | refine Zj (by omega) ?_ | rw [Option.bind_some])
   all_goals rfl
 ·exact ⟨at_, fr, show ZaE L0 N at_ fr i v4 dn D kd Q now Qo sk st s0 s1 sf Lx0 ve0 wr0 ce0 mo0 ra0 rb0 er0 ph0 Lx1 ve1 wr1 ce1 mo1 ra1 rb1 er1 ph1 Lx2 ve2 wr2 ce2 mo2 ra2 rb2 er2 ph2 F V W K kp = _ from Zj hk rfl, la, lf, rfl, rfl, fun _ _ => ⟨rfl, rfl⟩⟩
theorem end0 {dn : Bool} {q : RQ} {res : Zt} (hi : i ≤ 100) (hn : now ≤ 100) (lq : Q.length = 3) (hqt : q = Q.getD 0 Rqx.z) (la : at_.length = 3) (lf : fr.length = 3) (hd : rst (((now + 1 : Nat)) : Int) q D kd F N = some res) (hl : dn = true → q.a2 = 1 → er0 = 0 ∧ ra0 = (at_.getD 0 RH.z).a0 ∧ rb0 = (at_.getD 0 RH.z).a1 ∧ fr.getD 0 false = true) :
  ∃ y, Zi L0 N (.h4m0 at_ fr i 0 dn D kd Q now [q] Lx0 ve0 wr0 ce0 mo0 ra0 rb0 er0 ph0 Lx1 ve1 wr1 ce1 mo1 ra1 rb1 er1 ph1 Lx2 ve2 wr2 ce2 mo2 ra2 rb2 er2 ph2 F V W K kp) = some (.inl y) ∧ Zi L0 N y = some (.inl (.h1m0 at_ fr (i + 1) (dOf D res) (kOf kd res) (Q.set 0 (qOf q res)) (now + 1) Lx0 ve0 wr0 ce0 mo0 ra0 rb0 er0 ph0 Lx1 ve1 wr1 ce1 mo1 ra1 rb1 er1 ph1 Lx2 ve2 wr2 ce2 mo2 ra2 rb2 er2 ph2 (fOf q F res) V W K kp)) := by
 cases res with
 | r0 y0 y1 y2 y3 y4 y5 y6 y7 y8 y9 y10 y11 y12 y13 y14 y15 y16 y17 y18 y19 y20 y21 =>
  refine ⟨_, show ZU L0 N at_ fr i 0 dn D kd Q now [q] Lx0 ve0 wr0 ce0 mo0 ra0 rb0 er0 ph0 Lx1 ve1 wr1 ce1 mo1 ra1 rb1 er1 ph1 Lx2 ve2 wr2 ce2 mo2 ra2 rb2 er2 ph2 F V W K kp = _ from Zb (by omega) (Z0 hd rfl), ?_⟩
  show Zag L0 N at_ fr i 0 dn D kd Q now [q] _ _ _ _ _ _ _ _ _ _ _ _ _ _ _ _ _ _ _ _ _ _ _ _ _ _ _ _ _ _ _ _ _ _ = _
  unfold Zag
  cases dn with
  | true =>
   refine Zb rfl ?_
   by_cases e : q.a2 = 1
   ·obtain ⟨e1, e2, e3, e4⟩ := hl rfl e
    refine Zb (by omega) (Zb (by omega) (Zb (by omega) (Zb (by omega) (Zb e ?_))))
    refine Zb rfl ?_
    exact Zj (fun h => h e1) (Zb (by omega) (Zj (fun h => h ⟨e2, e3⟩) (Zb (by omega) (Zb e4 (Zb (by omega) rfl)))))
   ·exact Zb (by omega) (Zb (by omega) (Zb (by omega) (Zb (by omega) (Zj e (Zb (by omega) rfl)))))
  | false => exact Zj (by decide) (Zb (by omega) (Zb (by omega) (Zb (by omega) (Zb (by omega) (Zb (by omega) rfl)))))
 | r1 y0 y1 y2 y3 y4 y5 y6 =>
  refine ⟨_, show ZU L0 N at_ fr i 0 dn D kd Q now [q] Lx0 ve0 wr0 ce0 mo0 ra0 rb0 er0 ph0 Lx1 ve1 wr1 ce1 mo1 ra1 rb1 er1 ph1 Lx2 ve2 wr2 ce2 mo2 ra2 rb2 er2 ph2 F V W K kp = _ from Zb (by omega) (Z0 hd rfl), ?_⟩
  show Zah L0 N at_ fr i 0 dn D kd Q now [q] _ _ _ _ _ _ _ _ _ _ _ _ _ _ _ _ _ _ _ _ _ _ _ _ _ _ _ _ _ _ _ _ _ _ _ = _
  unfold Zah
  cases dn with
  | true =>
   refine Zb rfl ?_
   by_cases e : q.a2 = 1
   ·obtain ⟨e1, e2, e3, e4⟩ := hl rfl e
    refine Zb (by omega) (Zb (by omega) (Zb (by omega) (Zb (by omega) (Zb e ?_))))
    refine Zb rfl ?_
    exact Zj (fun h => h e1) (Zb (by omega) (Zj (fun h => h ⟨e2, e3⟩) (Zb (by omega) (Zb e4 (Zb (by omega) rfl)))))
   ·exact Zb (by omega) (Zb (by omega) (Zb (by omega) (Zb (by omega) (Zj e (Zb (by omega) rfl)))))
  | false => exact Zj (by decide) (Zb (by omega) (Zb (by omega) (Zb (by omega) (Zb (by omega) (Zb (by omega) rfl)))))
 | r2 y0 y1 =>
  refine ⟨_, show ZU L0 N at_ fr i 0 dn D kd Q now [q] Lx0 ve0 wr0 ce0 mo0 ra0 rb0 er0 ph0 Lx1 ve1 wr1 ce1 mo1 ra1 rb1 er1 ph1 Lx2 ve2 wr2 ce2 mo2 ra2 rb2 er2 ph2 F V W K kp = _ from Zb (by omega) (Z0 hd rfl), ?_⟩
  show Zai L0 N at_ fr i 0 dn D kd Q now [q] _ _ _ _ _ _ _ _ _ _ _ _ _ _ _ _ _ _ _ _ _ _ _ _ _ _ _ _ _ F _ _ _ _ _ = _
  unfold Zai
  cases dn with
  | true =>
   refine Zb rfl ?_
   by_cases e : q.a2 = 1
   ·obtain ⟨e1, e2, e3, e4⟩ := hl rfl e
    refine Zb (by omega) (Zb (by omega) (Zb (by omega) (Zb (by omega) (Zb e ?_))))
    refine Zb rfl ?_
    exact Zj (fun h => h e1) (Zb (by omega) (Zj (fun h => h ⟨e2, e3⟩) (Zb (by omega) (Zb e4 (Zb (by omega) rfl)))))
   ·exact Zb (by omega) (Zb (by omega) (Zb (by omega) (Zb (by omega) (Zj e (Zb (by omega) rfl)))))
  | false => exact Zj (by decide) (Zb (by omega) (Zb (by omega) (Zb (by omega) (Zb (by omega) (Zb (by omega) rfl)))))
theorem end1 {dn : Bool} {q : RQ} {res : Zt} (hi : i ≤ 100) (hn : now ≤ 100) (lq : Q.length = 3) (hqt : q = Q.getD 1 Rqx.z) (la : at_.length = 3) (lf : fr.length = 3) (hd : rst (((now + 1 : Nat)) : Int) q D kd F N = some res) (hl : dn = true → q.a2 = 1 → er1 = 0 ∧ ra1 = (at_.getD 1 RH.z).a0 ∧ rb1 = (at_.getD 1 RH.z).a1 ∧ fr.getD 1 false = true) :
  ∃ y, Zi L0 N (.h4m0 at_ fr i 1 dn D kd Q now [q] Lx0 ve0 wr0 ce0 mo0 ra0 rb0 er0 ph0 Lx1 ve1 wr1 ce1 mo1 ra1 rb1 er1 ph1 Lx2 ve2 wr2 ce2 mo2 ra2 rb2 er2 ph2 F V W K kp) = some (.inl y) ∧ Zi L0 N y = some (.inl (.h1m0 at_ fr (i + 1) (dOf D res) (kOf kd res) (Q.set 1 (qOf q res)) (now + 1) Lx0 ve0 wr0 ce0 mo0 ra0 rb0 er0 ph0 Lx1 ve1 wr1 ce1 mo1 ra1 rb1 er1 ph1 Lx2 ve2 wr2 ce2 mo2 ra2 rb2 er2 ph2 (fOf q F res) V W K kp)) := by
 cases res with
 | r0 y0 y1 y2 y3 y4 y5 y6 y7 y8 y9 y10 y11 y12 y13 y14 y15 y16 y17 y18 y19 y20 y21 =>
  refine ⟨_, show ZU L0 N at_ fr i 1 dn D kd Q now [q] Lx0 ve0 wr0 ce0 mo0 ra0 rb0 er0 ph0 Lx1 ve1 wr1 ce1 mo1 ra1 rb1 er1 ph1 Lx2 ve2 wr2 ce2 mo2 ra2 rb2 er2 ph2 F V W K kp = _ from Zb (by omega) (Z0 hd rfl), ?_⟩
  show Zag L0 N at_ fr i 1 dn D kd Q now [q] _ _ _ _ _ _ _ _ _ _ _ _ _ _ _ _ _ _ _ _ _ _ _ _ _ _ _ _ _ _ _ _ _ _ = _
  unfold Zag
  cases dn with
  | true =>
   refine Zb rfl ?_
   by_cases e : q.a2 = 1
   ·obtain ⟨e1, e2, e3, e4⟩ := hl rfl e
    refine Zb (by omega) (Zb (by omega) (Zb (by omega) (Zb (by omega) (Zb e ?_))))
    refine Zj (by decide) (Zb rfl ?_)
    exact Zj (fun h => h e1) (Zb (by omega) (Zj (fun h => h ⟨e2, e3⟩) (Zb (by omega) (Zb e4 (Zb (by omega) rfl)))))
   ·exact Zb (by omega) (Zb (by omega) (Zb (by omega) (Zb (by omega) (Zj e (Zb (by omega) rfl)))))
  | false => exact Zj (by decide) (Zb (by omega) (Zb (by omega) (Zb (by omega) (Zb (by omega) (Zb (by omega) rfl)))))
 | r1 y0 y1 y2 y3 y4 y5 y6 =>
  refine ⟨_, show ZU L0 N at_ fr i 1 dn D kd Q now [q] Lx0 ve0 wr0 ce0 mo0 ra0 rb0 er0 ph0 Lx1 ve1 wr1 ce1 mo1 ra1 rb1 er1 ph1 Lx2 ve2 wr2 ce2 mo2 ra2 rb2 er2 ph2 F V W K kp = _ from Zb (by omega) (Z0 hd rfl), ?_⟩
  show Zah L0 N at_ fr i 1 dn D kd Q now [q] _ _ _ _ _ _ _ _ _ _ _ _ _ _ _ _ _ _ _ _ _ _ _ _ _ _ _ _ _ _ _ _ _ _ _ = _
  unfold Zah
  cases dn with
  | true =>
   refine Zb rfl ?_
   by_cases e : q.a2 = 1
   ·obtain ⟨e1, e2, e3, e4⟩ := hl rfl e
    refine Zb (by omega) (Zb (by omega) (Zb (by omega) (Zb (by omega) (Zb e ?_))))
    refine Zj (by decide) (Zb rfl ?_)
    exact Zj (fun h => h e1) (Zb (by omega) (Zj (fun h => h ⟨e2, e3⟩) (Zb (by omega) (Zb e4 (Zb (by omega) rfl)))))
   ·exact Zb (by omega) (Zb (by omega) (Zb (by omega) (Zb (by omega) (Zj e (Zb (by omega) rfl)))))
  | false => exact Zj (by decide) (Zb (by omega) (Zb (by omega) (Zb (by omega) (Zb (by omega) (Zb (by omega) rfl)))))
 | r2 y0 y1 =>
  refine ⟨_, show ZU L0 N at_ fr i 1 dn D kd Q now [q] Lx0 ve0 wr0 ce0 mo0 ra0 rb0 er0 ph0 Lx1 ve1 wr1 ce1 mo1 ra1 rb1 er1 ph1 Lx2 ve2 wr2 ce2 mo2 ra2 rb2 er2 ph2 F V W K kp = _ from Zb (by omega) (Z0 hd rfl), ?_⟩
  show Zai L0 N at_ fr i 1 dn D kd Q now [q] _ _ _ _ _ _ _ _ _ _ _ _ _ _ _ _ _ _ _ _ _ _ _ _ _ _ _ _ _ F _ _ _ _ _ = _
  unfold Zai
  cases dn with
  | true =>
   refine Zb rfl ?_
   by_cases e : q.a2 = 1
   ·obtain ⟨e1, e2, e3, e4⟩ := hl rfl e
    refine Zb (by omega) (Zb (by omega) (Zb (by omega) (Zb (by omega) (Zb e ?_))))
    refine Zj (by decide) (Zb rfl ?_)
    exact Zj (fun h => h e1) (Zb (by omega) (Zj (fun h => h ⟨e2, e3⟩) (Zb (by omega) (Zb e4 (Zb (by omega) rfl)))))
   ·exact Zb (by omega) (Zb (by omega) (Zb (by omega) (Zb (by omega) (Zj e (Zb (by omega) rfl)))))
  | false => exact Zj (by decide) (Zb (by omega) (Zb (by omega) (Zb (by omega) (Zb (by omega) (Zb (by omega) rfl)))))
theorem end2 {dn : Bool} {q : RQ} {res : Zt} (hi : i ≤ 100) (hn : now ≤ 100) (lq : Q.length = 3) (hqt : q = Q.getD 2 Rqx.z) (la : at_.length = 3) (lf : fr.length = 3) (hd : rst (((now + 1 : Nat)) : Int) q D kd F N = some res) (hl : dn = true → q.a2 = 1 → er2 = 0 ∧ ra2 = (at_.getD 2 RH.z).a0 ∧ rb2 = (at_.getD 2 RH.z).a1 ∧ fr.getD 2 false = true) :
  ∃ y, Zi L0 N (.h4m0 at_ fr i 2 dn D kd Q now [q] Lx0 ve0 wr0 ce0 mo0 ra0 rb0 er0 ph0 Lx1 ve1 wr1 ce1 mo1 ra1 rb1 er1 ph1 Lx2 ve2 wr2 ce2 mo2 ra2 rb2 er2 ph2 F V W K kp) = some (.inl y) ∧ Zi L0 N y = some (.inl (.h1m0 at_ fr (i + 1) (dOf D res) (kOf kd res) (Q.set 2 (qOf q res)) (now + 1) Lx0 ve0 wr0 ce0 mo0 ra0 rb0 er0 ph0 Lx1 ve1 wr1 ce1 mo1 ra1 rb1 er1 ph1 Lx2 ve2 wr2 ce2 mo2 ra2 rb2 er2 ph2 (fOf q F res) V W K kp)) := by
 cases res with
 | r0 y0 y1 y2 y3 y4 y5 y6 y7 y8 y9 y10 y11 y12 y13 y14 y15 y16 y17 y18 y19 y20 y21 =>
  refine ⟨_, show ZU L0 N at_ fr i 2 dn D kd Q now [q] Lx0 ve0 wr0 ce0 mo0 ra0 rb0 er0 ph0 Lx1 ve1 wr1 ce1 mo1 ra1 rb1 er1 ph1 Lx2 ve2 wr2 ce2 mo2 ra2 rb2 er2 ph2 F V W K kp = _ from Zb (by omega) (Z0 hd rfl), ?_⟩
  show Zag L0 N at_ fr i 2 dn D kd Q now [q] _ _ _ _ _ _ _ _ _ _ _ _ _ _ _ _ _ _ _ _ _ _ _ _ _ _ _ _ _ _ _ _ _ _ = _
  unfold Zag
  cases dn with
  | true =>
   refine Zb rfl ?_
   by_cases e : q.a2 = 1
   ·obtain ⟨e1, e2, e3, e4⟩ := hl rfl e
    refine Zb (by omega) (Zb (by omega) (Zb (by omega) (Zb (by omega) (Zb e ?_))))
    refine Zj (by decide) (Zj (by decide) ?_)
    exact Zj (fun h => h e1) (Zb (by omega) (Zj (fun h => h ⟨e2, e3⟩) (Zb (by omega) (Zb e4 (Zb (by omega) rfl)))))
   ·exact Zb (by omega) (Zb (by omega) (Zb (by omega) (Zb (by omega) (Zj e (Zb (by omega) rfl)))))
  | false => exact Zj (by decide) (Zb (by omega) (Zb (by omega) (Zb (by omega) (Zb (by omega) (Zb (by omega) rfl)))))
 | r1 y0 y1 y2 y3 y4 y5 y6 =>
  refine ⟨_, show ZU L0 N at_ fr i 2 dn D kd Q now [q] Lx0 ve0 wr0 ce0 mo0 ra0 rb0 er0 ph0 Lx1 ve1 wr1 ce1 mo1 ra1 rb1 er1 ph1 Lx2 ve2 wr2 ce2 mo2 ra2 rb2 er2 ph2 F V W K kp = _ from Zb (by omega) (Z0 hd rfl), ?_⟩
  show Zah L0 N at_ fr i 2 dn D kd Q now [q] _ _ _ _ _ _ _ _ _ _ _ _ _ _ _ _ _ _ _ _ _ _ _ _ _ _ _ _ _ _ _ _ _ _ _ = _
  unfold Zah
  cases dn with
  | true =>
   refine Zb rfl ?_
   by_cases e : q.a2 = 1
   ·obtain ⟨e1, e2, e3, e4⟩ := hl rfl e
    refine Zb (by omega) (Zb (by omega) (Zb (by omega) (Zb (by omega) (Zb e ?_))))
    refine Zj (by decide) (Zj (by decide) ?_)
    exact Zj (fun h => h e1) (Zb (by omega) (Zj (fun h => h ⟨e2, e3⟩) (Zb (by omega) (Zb e4 (Zb (by omega) rfl)))))
   ·exact Zb (by omega) (Zb (by omega) (Zb (by omega) (Zb (by omega) (Zj e (Zb (by omega) rfl)))))
  | false => exact Zj (by decide) (Zb (by omega) (Zb (by omega) (Zb (by omega) (Zb (by omega) (Zb (by omega) rfl)))))
 | r2 y0 y1 =>
  refine ⟨_, show ZU L0 N at_ fr i 2 dn D kd Q now [q] Lx0 ve0 wr0 ce0 mo0 ra0 rb0 er0 ph0 Lx1 ve1 wr1 ce1 mo1 ra1 rb1 er1 ph1 Lx2 ve2 wr2 ce2 mo2 ra2 rb2 er2 ph2 F V W K kp = _ from Zb (by omega) (Z0 hd rfl), ?_⟩
  show Zai L0 N at_ fr i 2 dn D kd Q now [q] _ _ _ _ _ _ _ _ _ _ _ _ _ _ _ _ _ _ _ _ _ _ _ _ _ _ _ _ _ F _ _ _ _ _ = _
  unfold Zai
  cases dn with
  | true =>
   refine Zb rfl ?_
   by_cases e : q.a2 = 1
   ·obtain ⟨e1, e2, e3, e4⟩ := hl rfl e
    refine Zb (by omega) (Zb (by omega) (Zb (by omega) (Zb (by omega) (Zb e ?_))))
    refine Zj (by decide) (Zj (by decide) ?_)
    exact Zj (fun h => h e1) (Zb (by omega) (Zj (fun h => h ⟨e2, e3⟩) (Zb (by omega) (Zb e4 (Zb (by omega) rfl)))))
   ·exact Zb (by omega) (Zb (by omega) (Zb (by omega) (Zb (by omega) (Zj e (Zb (by omega) rfl)))))
  | false => exact Zj (by decide) (Zb (by omega) (Zb (by omega) (Zb (by omega) (Zb (by omega) (Zb (by omega) rfl)))))
end
end Po1
set_option linter.unusedVariables false
set_option linter.unusedSimpArgs false
set_option maxRecDepth 100000
set_option maxHeartbeats 4000000
namespace Po1
section
variable {k f vk vn : Int} {L : List RM} {ver : Int} {wr ce : Bool} {mo r0 r1 er t p : Int} {V : List RH} {W K : List Int} {kp : Int} {N : Nat}
theorem Zjt (hk : ¬ k = 2) : ZD k 2 1048577 f vk vn 0 0 0 0 0 0 0 0 0 0 0 false L ver wr ce mo r0 r1 er t 0 3 (List.replicate 64 (⟨(0 : Int), false, false⟩ : RG)) 300 5 50 50 1000 1 0 300 HD V W K 1000 kp 0 3 (List.replicate 64 (0 : Int)) N = some (.r0 0 [⟨k, 2, 1048577, f, vk, vn, 0, 0, 0, 0, 0, 0, 0, 0, 0, 0⟩] 0 false false 0 0 0 1) := Zb rfl (Zj hk rfl)
theorem Zju (hp : p = 1 ∨ p = 4 ∨ p = 5 ∨ p = 6 ∨ p = 7 ∨ p = 8 ∨ p = 9 ∨ p = 10) : ZD k 2 1048577 f vk vn 0 0 0 0 0 0 0 0 0 0 0 false L ver wr ce mo r0 r1 er t p 3 (List.replicate 64 (⟨(0 : Int), false, false⟩ : RG)) 300 5 50 50 1000 1 0 300 HD V W K 1000 kp 0 3 (List.replicate 64 (0 : Int)) N = some (.r0 170 L ver wr ce r0 r1 er p) := by
 unfold ZD
 rcases hp with rfl | rfl | rfl | rfl | rfl | rfl | rfl | rfl <;> repeat (first | refine Zb rfl ?_ | refine Zj (by decide) ?_)
 all_goals rfl
theorem ZhA {t W K : Int} {a : RH} {fr : Bool} {X : RM} {ver p : Int} {q : RQ} (h : TI t W K a fr X ver p q) (e : p = 0) : q.a2 = 0 ∧ q.a1 = t := by
 cases h <;> first | exact ⟨by assumption, by assumption⟩ | omega
theorem ZhB {t W K : Int} {a : RH} {fr : Bool} {X : RM} {ver p : Int} {q : RQ} (h : TI t W K a fr X ver p q) (e : ¬ p = 0) : ¬ q.a2 = 0 ∧ (p = 1 ∨ p = 4 ∨ p = 5 ∨ p = 6 ∨ p = 7 ∨ p = 8 ∨ p = 9 ∨ p = 10) := by
 cases h with
 | idle hp h k0 k1 hq => exact absurd hp e
 | look hp b => have := b.q2; have := b.kk; omega
 | ask hp b => have := b.q2; have := b.kk; omega
 | read hp b => have := b.q2; have := b.kk; omega
 | again hp b => have := b.q2; have := b.kk; omega
 | take hp b => have := b.q2; have := b.kk; omega
 | write hp b => have := b.q2; have := b.kk; omega
 | count hp b => have := b.q2; have := b.kk; omega
 | let_ hp b => have := b.q2; have := b.kk; omega
end
theorem t1' : Int.tmod (1 : Int) ((5 : Nat) : Int) = 1 := by decide
theorem Zcw {W K : Int} : Ziu W K W K := .inr ⟨rfl, .inl rfl⟩
section
variable {L0 : List RK} {N : Nat} {at_ : List RH} {fr : List Bool} {i now : Nat} {D : List RI} {kd : Int} {Q : List RQ} {Lx0 Lx1 Lx2 : List RM} {ve0 ve1 ve2 : Int} {wr0 ce0 wr1 ce1 wr2 ce2 : Bool} {mo0 ra0 rb0 er0 ph0 mo1 ra1 rb1 er1 ph1 mo2 ra2 rb2 er2 ph2 : Int} {F V : List RH} {W K : List Int} {kp : Int} {v4 v21 v22 v24 v25 v26 v27 v28 : Int}
theorem turn0 (h : Inv i at_ fr D kd Q now Lx0 Lx1 Lx2 ve0 ve1 ve2 ph0 ph1 ph2 F V W K kp) (hi : i < 100) (hv : v4 = 0) (k1 : ¬ v22 = 1) (k2 : ¬ v22 = 2) (k5 : ¬ v22 = 5) (k6 : ¬ v22 = 6) : ∃ y, G (i + 1) y ∧ ∀ n, Zav (Zi L0 N) (n + 4) (.h2m0 at_ fr i v4 D kd Q now v21 v22 v24 v25 v26 v27 v28 Lx0 ve0 wr0 ce0 mo0 ra0 rb0 er0 ph0 Lx1 ve1 wr1 ce1 mo1 ra1 rb1 er1 ph1 Lx2 ve2 wr2 ce2 mo2 ra2 rb2 er2 ph2 F V W K kp) = Zav (Zi L0 N) n y := by
 subst hv
 have nw := h.nw; have lq := h.lq
 obtain ⟨V', W', K', sk, st, s0, s1, sf, dn, L', ve', wr', ce', mo', r0', r1', er', p', kp', a', fr', res, hs, hseen, hd, hm, hti, hmo, hlaw⟩ := Ziv (now := (((now + 1 : Nat)) : Int)) (wr := wr0) (ce := ce0) (mo := mo0) (r0 := ra0) (r1 := rb0) (er := er0) (N := N) h.t0 h.m (by omega) (by decide) (by decide)
 have e1 : Zi L0 N (.h2m0 at_ fr i 0 D kd Q now v21 v22 v24 v25 v26 v27 v28 Lx0 ve0 wr0 ce0 mo0 ra0 rb0 er0 ph0 Lx1 ve1 wr1 ce1 mo1 ra1 rb1 er1 ph1 Lx2 ve2 wr2 ce2 mo2 ra2 rb2 er2 ph2 F V W K kp) = some (.inl (.h3m0 at_ fr i 0 dn D kd Q now [Q.getD 0 Rqx.z] sk st s0 s1 sf L' ve' wr' ce' mo' r0' r1' er' p' Lx1 ve1 wr1 ce1 mo1 ra1 rb1 er1 ph1 Lx2 ve2 wr2 ce2 mo2 ra2 rb2 er2 ph2 F V' W' K' kp')) := by
  show Zo L0 N at_ fr i 0 D kd Q now v21 v22 v24 v25 v26 v27 v28 Lx0 ve0 wr0 ce0 mo0 ra0 rb0 er0 ph0 Lx1 ve1 wr1 ce1 mo1 ra1 rb1 er1 ph1 Lx2 ve2 wr2 ce2 mo2 ra2 rb2 er2 ph2 F V W K kp = _
  unfold Zo
  repeat (first | refine Zb (by omega) ?_ | refine Zj (by omega) ?_)
  exact Z0 hs rfl
 have hseen' : sk = 4 ∧ s0 = 2 ∧ s1 = 1048577 ∧ 8 ≤ sf ∧ sf ≤ 10 ∧ a' = ⟨(V'.getD (1 + sf).toNat RH.z).a0, (V'.getD (1 + sf).toNat RH.z).a1⟩ ∧ fr' = decide (W'.getD 1 0 % 4 = 0) ∨ ¬ sk = 4 ∧ a' = at_.getD 0 RH.z ∧ fr' = fr.getD 0 false := by
  rcases hseen with ⟨x1, x2, x3, x4, x5, x6, x7, x8, x9, x10⟩ | ⟨x1, x2, x3⟩
  ·rw [x6, x7]; exact .inl ⟨x1, x2, x3, x4, x5, x9, x10⟩
  ·exact .inr ⟨x1, x2, x3⟩
 obtain ⟨at2, fr2, e2, la2, lf2, ha2, hf2, hoth⟩ := Zjs (L0 := L0) (N := N) (at_ := at_) (fr := fr) (i := i) (now := now) (D := D) (kd := kd) (Q := Q) (Lx0 := L') (ve0 := ve') (wr0 := wr') (ce0 := ce') (mo0 := mo') (ra0 := r0') (rb0 := r1') (er0 := er') (ph0 := p') (Lx1 := Lx1) (ve1 := ve1) (wr1 := wr1) (ce1 := ce1) (mo1 := mo1) (ra1 := ra1) (rb1 := rb1) (er1 := er1) (ph1 := ph1) (Lx2 := Lx2) (ve2 := ve2) (wr2 := wr2) (ce2 := ce2) (mo2 := mo2) (ra2 := ra2) (rb2 := rb2) (er2 := er2) (ph2 := ph2) (F := F) (V := V') (W := W') (K := K') (kp := kp') (v4 := 0) (dn := dn) (Qo := [Q.getD 0 Rqx.z]) (sk := sk) (st := st) (s0 := s0) (s1 := s1) (sf := sf) (a' := a') (fr' := fr') hm.wk hm.vl (by decide) (by decide) h.la h.lf hseen'
 have ha3 : at2.getD 0 RH.z = a' := ha2
 have hf3 : fr2.getD 0 false = fr' := hf2
 obtain ⟨y5, e3, e4⟩ := end0 (L0 := L0) (N := N) (at_ := at2) (fr := fr2) (i := i) (now := now) (D := D) (kd := kd) (Q := Q) (Lx0 := L') (ve0 := ve') (wr0 := wr') (ce0 := ce') (mo0 := mo') (ra0 := r0') (rb0 := r1') (er0 := er') (ph0 := p') (Lx1 := Lx1) (ve1 := ve1) (wr1 := wr1) (ce1 := ce1) (mo1 := mo1) (ra1 := ra1) (rb1 := rb1) (er1 := er1) (ph1 := ph1) (Lx2 := Lx2) (ve2 := ve2) (wr2 := wr2) (ce2 := ce2) (mo2 := mo2) (ra2 := ra2) (rb2 := rb2) (er2 := er2) (ph2 := ph2) (F := F) (V := V') (W := W') (K := K') (kp := kp') (dn := dn) (q := Q.getD 0 Rqx.z) (res := res) (by omega) (by omega) lq rfl la2 lf2 hd (by rw [ha3, hf3]; exact hlaw)
 exact ⟨_, .mk (Zl2 h hm hmo la2 lf2 hoth (by rw [ha3, hf3]; exact hti) (by omega)), fun n => (ZH e1).trans ((ZH e2).trans ((ZH e3).trans (ZH e4)))⟩
theorem Zpw (h : Inv i at_ fr D kd Q now Lx0 Lx1 Lx2 ve0 ve1 ve2 ph0 ph1 ph2 F V W K kp) (hi : i < 100) (hv : v4 = 0) (hk : v22 = 1) (f8 : 8 ≤ v24) (f10 : v24 ≤ 10) (g : v25 < 0) : ∃ y, G (i + 1) y ∧ ∀ n, Zav (Zi L0 N) (n + 1) (.h2m0 at_ fr i v4 D kd Q now v21 v22 v24 v25 v26 v27 v28 Lx0 ve0 wr0 ce0 mo0 ra0 rb0 er0 ph0 Lx1 ve1 wr1 ce1 mo1 ra1 rb1 er1 ph1 Lx2 ve2 wr2 ce2 mo2 ra2 rb2 er2 ph2 F V W K kp) = Zav (Zi L0 N) n y := by
 subst hv; subst hk
 have nw := h.nw; have lq := h.lq
 by_cases p : ph0 = 0
 ·obtain ⟨hq, hq1⟩ := ZhA h.t0 p
  subst p
  have e1 : Zi L0 N (.h2m0 at_ fr i 0 D kd Q now v21 1 v24 v25 v26 v27 v28 Lx0 ve0 wr0 ce0 mo0 ra0 rb0 er0 0 Lx1 ve1 wr1 ce1 mo1 ra1 rb1 er1 ph1 Lx2 ve2 wr2 ce2 mo2 ra2 rb2 er2 ph2 F V W K kp) = some (.inl (.h1m0 at_ fr (i + 1) D kd (Q.set 0 ⟨true, (Q.getD 0 Rqx.z).a1, 1, 0, 2, 1048577, 0, 0, v24, 0, [], 0, 0, 0, 0, 0, false, 0, 0, 0, 0, false, (Q.getD 0 Rqx.z).a22⟩) now [⟨0, 2, 1048577, v24, 0, 0, 0, 0, 0, 0, 0, 0, 0, 0, 0, 0⟩] 0 false false mo0 0 0 0 1 Lx1 ve1 wr1 ce1 mo1 ra1 rb1 er1 ph1 Lx2 ve2 wr2 ce2 mo2 ra2 rb2 er2 ph2 F V W K kp)) := by
   show Zo L0 N at_ fr i 0 D kd Q now v21 1 v24 v25 v26 v27 v28 Lx0 ve0 wr0 ce0 mo0 ra0 rb0 er0 0 Lx1 ve1 wr1 ce1 mo1 ra1 rb1 er1 ph1 Lx2 ve2 wr2 ce2 mo2 ra2 rb2 er2 ph2 F V W K kp = _
   unfold Zo
   repeat (first | refine Zb (by omega) ?_ | refine Zj (by omega) ?_)
   refine Z0 (Zjt (by decide)) ?_
   refine Z0 (Zj (fun x => x hq) rfl) ?_
   repeat (first | refine Zb (by omega) ?_ | refine Zj (by omega) ?_)
   rfl
  exact ⟨_, .mk (Zl2 (L' := [⟨0, 2, 1048577, v24, 0, 0, 0, 0, 0, 0, 0, 0, 0, 0, 0, 0⟩]) (e' := 0) (p' := 1) (q' := ⟨true, (Q.getD 0 Rqx.z).a1, 1, 0, 2, 1048577, 0, 0, v24, 0, [], 0, 0, 0, 0, 0, false, 0, 0, 0, 0, false, (Q.getD 0 Rqx.z).a22⟩) (now' := now) h (Zac h.m (by omega)) Zcw h.la h.lf (fun _ _ => ⟨rfl, rfl⟩) (.look rfl ⟨.inl ⟨rfl, rfl⟩, hq1, rfl, rfl, rfl, rfl, rfl, f8, f10, rfl, rfl, rfl⟩ rfl) (by omega)), fun n => ZH e1⟩
 ·obtain ⟨hq, hp⟩ := ZhB h.t0 p
  have e1 : Zi L0 N (.h2m0 at_ fr i 0 D kd Q now v21 1 v24 v25 v26 v27 v28 Lx0 ve0 wr0 ce0 mo0 ra0 rb0 er0 ph0 Lx1 ve1 wr1 ce1 mo1 ra1 rb1 er1 ph1 Lx2 ve2 wr2 ce2 mo2 ra2 rb2 er2 ph2 F V W K kp) = some (.inl (.h1m0 at_ fr (i + 1) D kd (Q.set 0 (Q.getD 0 Rqx.z)) now Lx0 ve0 wr0 ce0 mo0 ra0 rb0 er0 ph0 Lx1 ve1 wr1 ce1 mo1 ra1 rb1 er1 ph1 Lx2 ve2 wr2 ce2 mo2 ra2 rb2 er2 ph2 F V W K kp)) := by
   show Zo L0 N at_ fr i 0 D kd Q now v21 1 v24 v25 v26 v27 v28 Lx0 ve0 wr0 ce0 mo0 ra0 rb0 er0 ph0 Lx1 ve1 wr1 ce1 mo1 ra1 rb1 er1 ph1 Lx2 ve2 wr2 ce2 mo2 ra2 rb2 er2 ph2 F V W K kp = _
   unfold Zo
   repeat (first | refine Zb (by omega) ?_ | refine Zj (by omega) ?_)
   refine Z0 (Zju hp) ?_
   refine Z0 (Zb hq rfl) ?_
   repeat (first | refine Zb (by omega) ?_ | refine Zj (by omega) ?_)
   rfl
  exact ⟨_, .mk (Zl2 (L' := Lx0) (e' := ve0) (p' := ph0) (q' := (Q.getD 0 Rqx.z)) (now' := now) h (Zac h.m (by omega)) Zcw h.la h.lf (fun _ _ => ⟨rfl, rfl⟩) h.t0 (by omega)), fun n => ZH e1⟩
theorem Zpx (h : Inv i at_ fr D kd Q now Lx0 Lx1 Lx2 ve0 ve1 ve2 ph0 ph1 ph2 F V W K kp) (hi : i < 100) (hv : v4 = 0) (hk : v22 = 2) (f8 : 8 ≤ v24) (f10 : v24 ≤ 10) (g : v25 < 0) : ∃ y, G (i + 1) y ∧ ∀ n, Zav (Zi L0 N) (n + 1) (.h2m0 at_ fr i v4 D kd Q now v21 v22 v24 v25 v26 v27 v28 Lx0 ve0 wr0 ce0 mo0 ra0 rb0 er0 ph0 Lx1 ve1 wr1 ce1 mo1 ra1 rb1 er1 ph1 Lx2 ve2 wr2 ce2 mo2 ra2 rb2 er2 ph2 F V W K kp) = Zav (Zi L0 N) n y := by
 subst hv; subst hk
 have nw := h.nw; have lq := h.lq
 by_cases p : ph0 = 0
 ·obtain ⟨hq, hq1⟩ := ZhA h.t0 p
  subst p
  have e1 : Zi L0 N (.h2m0 at_ fr i 0 D kd Q now v21 2 v24 v25 v26 v27 v28 Lx0 ve0 wr0 ce0 mo0 ra0 rb0 er0 0 Lx1 ve1 wr1 ce1 mo1 ra1 rb1 er1 ph1 Lx2 ve2 wr2 ce2 mo2 ra2 rb2 er2 ph2 F V W K kp) = some (.inl (.h1m0 at_ fr (i + 1) D kd (Q.set 0 ⟨true, (Q.getD 0 Rqx.z).a1, 2, 0, 2, 1048577, 1, v24, v24, 0, [], 0, 0, 0, 0, 0, false, 0, 0, 0, 0, false, (Q.getD 0 Rqx.z).a22⟩) now [⟨1, 2, 1048577, v24, 1, v24, 0, 0, 0, 0, 0, 0, 0, 0, 0, 0⟩] 0 false false mo0 0 0 0 1 Lx1 ve1 wr1 ce1 mo1 ra1 rb1 er1 ph1 Lx2 ve2 wr2 ce2 mo2 ra2 rb2 er2 ph2 F V W K kp)) := by
   show Zo L0 N at_ fr i 0 D kd Q now v21 2 v24 v25 v26 v27 v28 Lx0 ve0 wr0 ce0 mo0 ra0 rb0 er0 0 Lx1 ve1 wr1 ce1 mo1 ra1 rb1 er1 ph1 Lx2 ve2 wr2 ce2 mo2 ra2 rb2 er2 ph2 F V W K kp = _
   unfold Zo
   repeat (first | refine Zb (by omega) ?_ | refine Zj (by omega) ?_)
   refine Z0 (Zjt (by decide)) ?_
   refine Z0 (Zj (fun x => x hq) rfl) ?_
   repeat (first | refine Zb (by omega) ?_ | refine Zj (by omega) ?_)
   rfl
  exact ⟨_, .mk (Zl2 (L' := [⟨1, 2, 1048577, v24, 1, v24, 0, 0, 0, 0, 0, 0, 0, 0, 0, 0⟩]) (e' := 0) (p' := 1) (q' := ⟨true, (Q.getD 0 Rqx.z).a1, 2, 0, 2, 1048577, 1, v24, v24, 0, [], 0, 0, 0, 0, 0, false, 0, 0, 0, 0, false, (Q.getD 0 Rqx.z).a22⟩) (now' := now) h (Zac h.m (by omega)) Zcw h.la h.lf (fun _ _ => ⟨rfl, rfl⟩) (.look rfl ⟨.inr ⟨rfl, rfl, f8, f10⟩, hq1, rfl, rfl, rfl, rfl, rfl, f8, f10, rfl, rfl, rfl⟩ rfl) (by omega)), fun n => ZH e1⟩
 ·obtain ⟨hq, hp⟩ := ZhB h.t0 p
  have e1 : Zi L0 N (.h2m0 at_ fr i 0 D kd Q now v21 2 v24 v25 v26 v27 v28 Lx0 ve0 wr0 ce0 mo0 ra0 rb0 er0 ph0 Lx1 ve1 wr1 ce1 mo1 ra1 rb1 er1 ph1 Lx2 ve2 wr2 ce2 mo2 ra2 rb2 er2 ph2 F V W K kp) = some (.inl (.h1m0 at_ fr (i + 1) D kd (Q.set 0 (Q.getD 0 Rqx.z)) now Lx0 ve0 wr0 ce0 mo0 ra0 rb0 er0 ph0 Lx1 ve1 wr1 ce1 mo1 ra1 rb1 er1 ph1 Lx2 ve2 wr2 ce2 mo2 ra2 rb2 er2 ph2 F V W K kp)) := by
   show Zo L0 N at_ fr i 0 D kd Q now v21 2 v24 v25 v26 v27 v28 Lx0 ve0 wr0 ce0 mo0 ra0 rb0 er0 ph0 Lx1 ve1 wr1 ce1 mo1 ra1 rb1 er1 ph1 Lx2 ve2 wr2 ce2 mo2 ra2 rb2 er2 ph2 F V W K kp = _
   unfold Zo
   repeat (first | refine Zb (by omega) ?_ | refine Zj (by omega) ?_)
   refine Z0 (Zju hp) ?_
   refine Z0 (Zb hq rfl) ?_
   repeat (first | refine Zb (by omega) ?_ | refine Zj (by omega) ?_)
   rfl
  exact ⟨_, .mk (Zl2 (L' := Lx0) (e' := ve0) (p' := ph0) (q' := (Q.getD 0 Rqx.z)) (now' := now) h (Zac h.m (by omega)) Zcw h.la h.lf (fun _ _ => ⟨rfl, rfl⟩) h.t0 (by omega)), fun n => ZH e1⟩
theorem turn1 (h : Inv i at_ fr D kd Q now Lx0 Lx1 Lx2 ve0 ve1 ve2 ph0 ph1 ph2 F V W K kp) (hi : i < 100) (hv : v4 = 1) (k1 : ¬ v22 = 1) (k2 : ¬ v22 = 2) (k5 : ¬ v22 = 5) (k6 : ¬ v22 = 6) : ∃ y, G (i + 1) y ∧ ∀ n, Zav (Zi L0 N) (n + 4) (.h2m0 at_ fr i v4 D kd Q now v21 v22 v24 v25 v26 v27 v28 Lx0 ve0 wr0 ce0 mo0 ra0 rb0 er0 ph0 Lx1 ve1 wr1 ce1 mo1 ra1 rb1 er1 ph1 Lx2 ve2 wr2 ce2 mo2 ra2 rb2 er2 ph2 F V W K kp) = Zav (Zi L0 N) n y := by
 subst hv
 have nw := h.nw; have lq := h.lq
 obtain ⟨V', W', K', sk, st, s0, s1, sf, dn, L', ve', wr', ce', mo', r0', r1', er', p', kp', a', fr', res, hs, hseen, hd, hm, hti, hmo, hlaw⟩ := Ziv (now := (((now + 1 : Nat)) : Int)) (wr := wr1) (ce := ce1) (mo := mo1) (r0 := ra1) (r1 := rb1) (er := er1) (N := N) h.t1 h.m (by omega) (by decide) (by decide)
 have e1 : Zi L0 N (.h2m0 at_ fr i 1 D kd Q now v21 v22 v24 v25 v26 v27 v28 Lx0 ve0 wr0 ce0 mo0 ra0 rb0 er0 ph0 Lx1 ve1 wr1 ce1 mo1 ra1 rb1 er1 ph1 Lx2 ve2 wr2 ce2 mo2 ra2 rb2 er2 ph2 F V W K kp) = some (.inl (.h3m0 at_ fr i 1 dn D kd Q now [Q.getD 1 Rqx.z] sk st s0 s1 sf Lx0 ve0 wr0 ce0 mo0 ra0 rb0 er0 ph0 L' ve' wr' ce' mo' r0' r1' er' p' Lx2 ve2 wr2 ce2 mo2 ra2 rb2 er2 ph2 F V' W' K' kp')) := by
  show Zo L0 N at_ fr i 1 D kd Q now v21 v22 v24 v25 v26 v27 v28 Lx0 ve0 wr0 ce0 mo0 ra0 rb0 er0 ph0 Lx1 ve1 wr1 ce1 mo1 ra1 rb1 er1 ph1 Lx2 ve2 wr2 ce2 mo2 ra2 rb2 er2 ph2 F V W K kp = _
  unfold Zo
  repeat (first | refine Zb (by omega) ?_ | refine Zj (by omega) ?_)
  exact Z0 hs rfl
 have hseen' : sk = 4 ∧ s0 = 2 ∧ s1 = 1048577 ∧ 8 ≤ sf ∧ sf ≤ 10 ∧ a' = ⟨(V'.getD (1 + sf).toNat RH.z).a0, (V'.getD (1 + sf).toNat RH.z).a1⟩ ∧ fr' = decide (W'.getD 1 0 % 4 = 0) ∨ ¬ sk = 4 ∧ a' = at_.getD 1 RH.z ∧ fr' = fr.getD 1 false := by
  rcases hseen with ⟨x1, x2, x3, x4, x5, x6, x7, x8, x9, x10⟩ | ⟨x1, x2, x3⟩
  ·rw [x6, x7]; exact .inl ⟨x1, x2, x3, x4, x5, x9, x10⟩
  ·exact .inr ⟨x1, x2, x3⟩
 obtain ⟨at2, fr2, e2, la2, lf2, ha2, hf2, hoth⟩ := Zjs (L0 := L0) (N := N) (at_ := at_) (fr := fr) (i := i) (now := now) (D := D) (kd := kd) (Q := Q) (Lx0 := Lx0) (ve0 := ve0) (wr0 := wr0) (ce0 := ce0) (mo0 := mo0) (ra0 := ra0) (rb0 := rb0) (er0 := er0) (ph0 := ph0) (Lx1 := L') (ve1 := ve') (wr1 := wr') (ce1 := ce') (mo1 := mo') (ra1 := r0') (rb1 := r1') (er1 := er') (ph1 := p') (Lx2 := Lx2) (ve2 := ve2) (wr2 := wr2) (ce2 := ce2) (mo2 := mo2) (ra2 := ra2) (rb2 := rb2) (er2 := er2) (ph2 := ph2) (F := F) (V := V') (W := W') (K := K') (kp := kp') (v4 := 1) (dn := dn) (Qo := [Q.getD 1 Rqx.z]) (sk := sk) (st := st) (s0 := s0) (s1 := s1) (sf := sf) (a' := a') (fr' := fr') hm.wk hm.vl (by decide) (by decide) h.la h.lf hseen'
 have ha3 : at2.getD 1 RH.z = a' := ha2
 have hf3 : fr2.getD 1 false = fr' := hf2
 obtain ⟨y5, e3, e4⟩ := end1 (L0 := L0) (N := N) (at_ := at2) (fr := fr2) (i := i) (now := now) (D := D) (kd := kd) (Q := Q) (Lx0 := Lx0) (ve0 := ve0) (wr0 := wr0) (ce0 := ce0) (mo0 := mo0) (ra0 := ra0) (rb0 := rb0) (er0 := er0) (ph0 := ph0) (Lx1 := L') (ve1 := ve') (wr1 := wr') (ce1 := ce') (mo1 := mo') (ra1 := r0') (rb1 := r1') (er1 := er') (ph1 := p') (Lx2 := Lx2) (ve2 := ve2) (wr2 := wr2) (ce2 := ce2) (mo2 := mo2) (ra2 := ra2) (rb2 := rb2) (er2 := er2) (ph2 := ph2) (F := F) (V := V') (W := W') (K := K') (kp := kp') (dn := dn) (q := Q.getD 1 Rqx.z) (res := res) (by omega) (by omega) lq rfl la2 lf2 hd (by rw [ha3, hf3]; exact hlaw)
 exact ⟨_, .mk (Zl3 h hm hmo la2 lf2 hoth (by rw [ha3, hf3]; exact hti) (by omega)), fun n => (ZH e1).trans ((ZH e2).trans ((ZH e3).trans (ZH e4)))⟩
theorem Zpy (h : Inv i at_ fr D kd Q now Lx0 Lx1 Lx2 ve0 ve1 ve2 ph0 ph1 ph2 F V W K kp) (hi : i < 100) (hv : v4 = 1) (hk : v22 = 1) (f8 : 8 ≤ v24) (f10 : v24 ≤ 10) (g : v25 < 0) : ∃ y, G (i + 1) y ∧ ∀ n, Zav (Zi L0 N) (n + 1) (.h2m0 at_ fr i v4 D kd Q now v21 v22 v24 v25 v26 v27 v28 Lx0 ve0 wr0 ce0 mo0 ra0 rb0 er0 ph0 Lx1 ve1 wr1 ce1 mo1 ra1 rb1 er1 ph1 Lx2 ve2 wr2 ce2 mo2 ra2 rb2 er2 ph2 F V W K kp) = Zav (Zi L0 N) n y := by
 subst hv; subst hk
 have nw := h.nw; have lq := h.lq
 by_cases p : ph1 = 0
 ·obtain ⟨hq, hq1⟩ := ZhA h.t1 p
  subst p
  have e1 : Zi L0 N (.h2m0 at_ fr i 1 D kd Q now v21 1 v24 v25 v26 v27 v28 Lx0 ve0 wr0 ce0 mo0 ra0 rb0 er0 ph0 Lx1 ve1 wr1 ce1 mo1 ra1 rb1 er1 0 Lx2 ve2 wr2 ce2 mo2 ra2 rb2 er2 ph2 F V W K kp) = some (.inl (.h1m0 at_ fr (i + 1) D kd (Q.set 1 ⟨true, (Q.getD 1 Rqx.z).a1, 1, 0, 2, 1048577, 0, 0, v24, 0, [], 0, 0, 0, 0, 0, false, 0, 0, 0, 0, false, (Q.getD 1 Rqx.z).a22⟩) now Lx0 ve0 wr0 ce0 mo0 ra0 rb0 er0 ph0 [⟨0, 2, 1048577, v24, 0, 0, 0, 0, 0, 0, 0, 0, 0, 0, 0, 0⟩] 0 false false mo1 0 0 0 1 Lx2 ve2 wr2 ce2 mo2 ra2 rb2 er2 ph2 F V W K kp)) := by
   show Zo L0 N at_ fr i 1 D kd Q now v21 1 v24 v25 v26 v27 v28 Lx0 ve0 wr0 ce0 mo0 ra0 rb0 er0 ph0 Lx1 ve1 wr1 ce1 mo1 ra1 rb1 er1 0 Lx2 ve2 wr2 ce2 mo2 ra2 rb2 er2 ph2 F V W K kp = _
   unfold Zo
   repeat (first | refine Zb (by omega) ?_ | refine Zj (by omega) ?_)
   refine Z0 (Zjt (by decide)) ?_
   refine Z0 (Zj (fun x => x hq) rfl) ?_
   repeat (first | refine Zb (by omega) ?_ | refine Zj (by omega) ?_)
   rfl
  exact ⟨_, .mk (Zl3 (L' := [⟨0, 2, 1048577, v24, 0, 0, 0, 0, 0, 0, 0, 0, 0, 0, 0, 0⟩]) (e' := 0) (p' := 1) (q' := ⟨true, (Q.getD 1 Rqx.z).a1, 1, 0, 2, 1048577, 0, 0, v24, 0, [], 0, 0, 0, 0, 0, false, 0, 0, 0, 0, false, (Q.getD 1 Rqx.z).a22⟩) (now' := now) h (Zac h.m (by omega)) Zcw h.la h.lf (fun _ _ => ⟨rfl, rfl⟩) (.look rfl ⟨.inl ⟨rfl, rfl⟩, hq1, rfl, rfl, rfl, rfl, rfl, f8, f10, rfl, rfl, rfl⟩ rfl) (by omega)), fun n => ZH e1⟩
 ·obtain ⟨hq, hp⟩ := ZhB h.t1 p
  have e1 : Zi L0 N (.h2m0 at_ fr i 1 D kd Q now v21 1 v24 v25 v26 v27 v28 Lx0 ve0 wr0 ce0 mo0 ra0 rb0 er0 ph0 Lx1 ve1 wr1 ce1 mo1 ra1 rb1 er1 ph1 Lx2 ve2 wr2 ce2 mo2 ra2 rb2 er2 ph2 F V W K kp) = some (.inl (.h1m0 at_ fr (i + 1) D kd (Q.set 1 (Q.getD 1 Rqx.z)) now Lx0 ve0 wr0 ce0 mo0 ra0 rb0 er0 ph0 Lx1 ve1 wr1 ce1 mo1 ra1 rb1 er1 ph1 Lx2 ve2 wr2 ce2 mo2 ra2 rb2 er2 ph2 F V W K kp)) := by
   show Zo L0 N at_ fr i 1 D kd Q now v21 1 v24 v25 v26 v27 v28 Lx0 ve0 wr0 ce0 mo0 ra0 rb0 er0 ph0 Lx1 ve1 wr1 ce1 mo1 ra1 rb1 er1 ph1 Lx2 ve2 wr2 ce2 mo2 ra2 rb2 er2 ph2 F V W K kp = _
   unfold Zo
   repeat (first | refine Zb (by omega) ?_ | refine Zj (by omega) ?_)
   refine Z0 (Zju hp) ?_
   refine Z0 (Zb hq rfl) ?_
   repeat (first | refine Zb (by omega) ?_ | refine Zj (by omega) ?_)
   rfl
  exact ⟨_, .mk (Zl3 (L' := Lx1) (e' := ve1) (p' := ph1) (q' := (Q.getD 1 Rqx.z)) (now' := now) h (Zac h.m (by omega)) Zcw h.la h.lf (fun _ _ => ⟨rfl, rfl⟩) h.t1 (by omega)), fun n => ZH e1⟩
theorem Zpz (h : Inv i at_ fr D kd Q now Lx0 Lx1 Lx2 ve0 ve1 ve2 ph0 ph1 ph2 F V W K kp) (hi : i < 100) (hv : v4 = 1) (hk : v22 = 2) (f8 : 8 ≤ v24) (f10 : v24 ≤ 10) (g : v25 < 0) : ∃ y, G (i + 1) y ∧ ∀ n, Zav (Zi L0 N) (n + 1) (.h2m0 at_ fr i v4 D kd Q now v21 v22 v24 v25 v26 v27 v28 Lx0 ve0 wr0 ce0 mo0 ra0 rb0 er0 ph0 Lx1 ve1 wr1 ce1 mo1 ra1 rb1 er1 ph1 Lx2 ve2 wr2 ce2 mo2 ra2 rb2 er2 ph2 F V W K kp) = Zav (Zi L0 N) n y := by
 subst hv; subst hk
 have nw := h.nw; have lq := h.lq
 by_cases p : ph1 = 0
 ·obtain ⟨hq, hq1⟩ := ZhA h.t1 p
  subst p
  have e1 : Zi L0 N (.h2m0 at_ fr i 1 D kd Q now v21 2 v24 v25 v26 v27 v28 Lx0 ve0 wr0 ce0 mo0 ra0 rb0 er0 ph0 Lx1 ve1 wr1 ce1 mo1 ra1 rb1 er1 0 Lx2 ve2 wr2 ce2 mo2 ra2 rb2 er2 ph2 F V W K kp) = some (.inl (.h1m0 at_ fr (i + 1) D kd (Q.set 1 ⟨true, (Q.getD 1 Rqx.z).a1, 2, 0, 2, 1048577, 1, v24, v24, 0, [], 0, 0, 0, 0, 0, false, 0, 0, 0, 0, false, (Q.getD 1 Rqx.z).a22⟩) now Lx0 ve0 wr0 ce0 mo0 ra0 rb0 er0 ph0 [⟨1, 2, 1048577, v24, 1, v24, 0, 0, 0, 0, 0, 0, 0, 0, 0, 0⟩] 0 false false mo1 0 0 0 1 Lx2 ve2 wr2 ce2 mo2 ra2 rb2 er2 ph2 F V W K kp)) := by
   show Zo L0 N at_ fr i 1 D kd Q now v21 2 v24 v25 v26 v27 v28 Lx0 ve0 wr0 ce0 mo0 ra0 rb0 er0 ph0 Lx1 ve1 wr1 ce1 mo1 ra1 rb1 er1 0 Lx2 ve2 wr2 ce2 mo2 ra2 rb2 er2 ph2 F V W K kp = _
   unfold Zo
   repeat (first | refine Zb (by omega) ?_ | refine Zj (by omega) ?_)
   refine Z0 (Zjt (by decide)) ?_
   refine Z0 (Zj (fun x => x hq) rfl) ?_
   repeat (first | refine Zb (by omega) ?_ | refine Zj (by omega) ?_)
   rfl
  exact ⟨_, .mk (Zl3 (L' := [⟨1, 2, 1048577, v24, 1, v24, 0, 0, 0, 0, 0, 0, 0, 0, 0, 0⟩]) (e' := 0) (p' := 1) (q' := ⟨true, (Q.getD 1 Rqx.z).a1, 2, 0, 2, 1048577, 1, v24, v24, 0, [], 0, 0, 0, 0, 0, false, 0, 0, 0, 0, false, (Q.getD 1 Rqx.z).a22⟩) (now' := now) h (Zac h.m (by omega)) Zcw h.la h.lf (fun _ _ => ⟨rfl, rfl⟩) (.look rfl ⟨.inr ⟨rfl, rfl, f8, f10⟩, hq1, rfl, rfl, rfl, rfl, rfl, f8, f10, rfl, rfl, rfl⟩ rfl) (by omega)), fun n => ZH e1⟩
 ·obtain ⟨hq, hp⟩ := ZhB h.t1 p
  have e1 : Zi L0 N (.h2m0 at_ fr i 1 D kd Q now v21 2 v24 v25 v26 v27 v28 Lx0 ve0 wr0 ce0 mo0 ra0 rb0 er0 ph0 Lx1 ve1 wr1 ce1 mo1 ra1 rb1 er1 ph1 Lx2 ve2 wr2 ce2 mo2 ra2 rb2 er2 ph2 F V W K kp) = some (.inl (.h1m0 at_ fr (i + 1) D kd (Q.set 1 (Q.getD 1 Rqx.z)) now Lx0 ve0 wr0 ce0 mo0 ra0 rb0 er0 ph0 Lx1 ve1 wr1 ce1 mo1 ra1 rb1 er1 ph1 Lx2 ve2 wr2 ce2 mo2 ra2 rb2 er2 ph2 F V W K kp)) := by
   show Zo L0 N at_ fr i 1 D kd Q now v21 2 v24 v25 v26 v27 v28 Lx0 ve0 wr0 ce0 mo0 ra0 rb0 er0 ph0 Lx1 ve1 wr1 ce1 mo1 ra1 rb1 er1 ph1 Lx2 ve2 wr2 ce2 mo2 ra2 rb2 er2 ph2 F V W K kp = _
   unfold Zo
   repeat (first | refine Zb (by omega) ?_ | refine Zj (by omega) ?_)
   refine Z0 (Zju hp) ?_
   refine Z0 (Zb hq rfl) ?_
   repeat (first | refine Zb (by omega) ?_ | refine Zj (by omega) ?_)
   rfl
  exact ⟨_, .mk (Zl3 (L' := Lx1) (e' := ve1) (p' := ph1) (q' := (Q.getD 1 Rqx.z)) (now' := now) h (Zac h.m (by omega)) Zcw h.la h.lf (fun _ _ => ⟨rfl, rfl⟩) h.t1 (by omega)), fun n => ZH e1⟩
theorem turn2 (h : Inv i at_ fr D kd Q now Lx0 Lx1 Lx2 ve0 ve1 ve2 ph0 ph1 ph2 F V W K kp) (hi : i < 100) (hv : v4 = 2) (k1 : ¬ v22 = 1) (k2 : ¬ v22 = 2) (k5 : ¬ v22 = 5) (k6 : ¬ v22 = 6) : ∃ y, G (i + 1) y ∧ ∀ n, Zav (Zi L0 N) (n + 4) (.h2m0 at_ fr i v4 D kd Q now v21 v22 v24 v25 v26 v27 v28 Lx0 ve0 wr0 ce0 mo0 ra0 rb0 er0 ph0 Lx1 ve1 wr1 ce1 mo1 ra1 rb1 er1 ph1 Lx2 ve2 wr2 ce2 mo2 ra2 rb2 er2 ph2 F V W K kp) = Zav (Zi L0 N) n y := by
 subst hv
 have nw := h.nw; have lq := h.lq
 obtain ⟨V', W', K', sk, st, s0, s1, sf, dn, L', ve', wr', ce', mo', r0', r1', er', p', kp', a', fr', res, hs, hseen, hd, hm, hti, hmo, hlaw⟩ := Ziv (now := (((now + 1 : Nat)) : Int)) (wr := wr2) (ce := ce2) (mo := mo2) (r0 := ra2) (r1 := rb2) (er := er2) (N := N) h.t2 h.m (by omega) (by decide) (by decide)
 have e1 : Zi L0 N (.h2m0 at_ fr i 2 D kd Q now v21 v22 v24 v25 v26 v27 v28 Lx0 ve0 wr0 ce0 mo0 ra0 rb0 er0 ph0 Lx1 ve1 wr1 ce1 mo1 ra1 rb1 er1 ph1 Lx2 ve2 wr2 ce2 mo2 ra2 rb2 er2 ph2 F V W K kp) = some (.inl (.h3m0 at_ fr i 2 dn D kd Q now [Q.getD 2 Rqx.z] sk st s0 s1 sf Lx0 ve0 wr0 ce0 mo0 ra0 rb0 er0 ph0 Lx1 ve1 wr1 ce1 mo1 ra1 rb1 er1 ph1 L' ve' wr' ce' mo' r0' r1' er' p' F V' W' K' kp')) := by
  show Zo L0 N at_ fr i 2 D kd Q now v21 v22 v24 v25 v26 v27 v28 Lx0 ve0 wr0 ce0 mo0 ra0 rb0 er0 ph0 Lx1 ve1 wr1 ce1 mo1 ra1 rb1 er1 ph1 Lx2 ve2 wr2 ce2 mo2 ra2 rb2 er2 ph2 F V W K kp = _
  unfold Zo
  repeat (first | refine Zb (by omega) ?_ | refine Zj (by omega) ?_)
  exact Z0 hs rfl
 have hseen' : sk = 4 ∧ s0 = 2 ∧ s1 = 1048577 ∧ 8 ≤ sf ∧ sf ≤ 10 ∧ a' = ⟨(V'.getD (1 + sf).toNat RH.z).a0, (V'.getD (1 + sf).toNat RH.z).a1⟩ ∧ fr' = decide (W'.getD 1 0 % 4 = 0) ∨ ¬ sk = 4 ∧ a' = at_.getD 2 RH.z ∧ fr' = fr.getD 2 false := by
  rcases hseen with ⟨x1, x2, x3, x4, x5, x6, x7, x8, x9, x10⟩ | ⟨x1, x2, x3⟩
  ·rw [x6, x7]; exact .inl ⟨x1, x2, x3, x4, x5, x9, x10⟩
  ·exact .inr ⟨x1, x2, x3⟩
 obtain ⟨at2, fr2, e2, la2, lf2, ha2, hf2, hoth⟩ := Zjs (L0 := L0) (N := N) (at_ := at_) (fr := fr) (i := i) (now := now) (D := D) (kd := kd) (Q := Q) (Lx0 := Lx0) (ve0 := ve0) (wr0 := wr0) (ce0 := ce0) (mo0 := mo0) (ra0 := ra0) (rb0 := rb0) (er0 := er0) (ph0 := ph0) (Lx1 := Lx1) (ve1 := ve1) (wr1 := wr1) (ce1 := ce1) (mo1 := mo1) (ra1 := ra1) (rb1 := rb1) (er1 := er1) (ph1 := ph1) (Lx2 := L') (ve2 := ve') (wr2 := wr') (ce2 := ce') (mo2 := mo') (ra2 := r0') (rb2 := r1') (er2 := er') (ph2 := p') (F := F) (V := V') (W := W') (K := K') (kp := kp') (v4 := 2) (dn := dn) (Qo := [Q.getD 2 Rqx.z]) (sk := sk) (st := st) (s0 := s0) (s1 := s1) (sf := sf) (a' := a') (fr' := fr') hm.wk hm.vl (by decide) (by decide) h.la h.lf hseen'
 have ha3 : at2.getD 2 RH.z = a' := ha2
 have hf3 : fr2.getD 2 false = fr' := hf2
 obtain ⟨y5, e3, e4⟩ := end2 (L0 := L0) (N := N) (at_ := at2) (fr := fr2) (i := i) (now := now) (D := D) (kd := kd) (Q := Q) (Lx0 := Lx0) (ve0 := ve0) (wr0 := wr0) (ce0 := ce0) (mo0 := mo0) (ra0 := ra0) (rb0 := rb0) (er0 := er0) (ph0 := ph0) (Lx1 := Lx1) (ve1 := ve1) (wr1 := wr1) (ce1 := ce1) (mo1 := mo1) (ra1 := ra1) (rb1 := rb1) (er1 := er1) (ph1 := ph1) (Lx2 := L') (ve2 := ve') (wr2 := wr') (ce2 := ce') (mo2 := mo') (ra2 := r0') (rb2 := r1') (er2 := er') (ph2 := p') (F := F) (V := V') (W := W') (K := K') (kp := kp') (dn := dn) (q := Q.getD 2 Rqx.z) (res := res) (by omega) (by omega) lq rfl la2 lf2 hd (by rw [ha3, hf3]; exact hlaw)
 exact ⟨_, .mk (Zl4 h hm hmo la2 lf2 hoth (by rw [ha3, hf3]; exact hti) (by omega)), fun n => (ZH e1).trans ((ZH e2).trans ((ZH e3).trans (ZH e4)))⟩
theorem Zp0 (h : Inv i at_ fr D kd Q now Lx0 Lx1 Lx2 ve0 ve1 ve2 ph0 ph1 ph2 F V W K kp) (hi : i < 100) (hv : v4 = 2) (hk : v22 = 1) (f8 : 8 ≤ v24) (f10 : v24 ≤ 10) (g : v25 < 0) : ∃ y, G (i + 1) y ∧ ∀ n, Zav (Zi L0 N) (n + 1) (.h2m0 at_ fr i v4 D kd Q now v21 v22 v24 v25 v26 v27 v28 Lx0 ve0 wr0 ce0 mo0 ra0 rb0 er0 ph0 Lx1 ve1 wr1 ce1 mo1 ra1 rb1 er1 ph1 Lx2 ve2 wr2 ce2 mo2 ra2 rb2 er2 ph2 F V W K kp) = Zav (Zi L0 N) n y := by
 subst hv; subst hk
 have nw := h.nw; have lq := h.lq
 by_cases p : ph2 = 0
 ·obtain ⟨hq, hq1⟩ := ZhA h.t2 p
  subst p
  have e1 : Zi L0 N (.h2m0 at_ fr i 2 D kd Q now v21 1 v24 v25 v26 v27 v28 Lx0 ve0 wr0 ce0 mo0 ra0 rb0 er0 ph0 Lx1 ve1 wr1 ce1 mo1 ra1 rb1 er1 ph1 Lx2 ve2 wr2 ce2 mo2 ra2 rb2 er2 0 F V W K kp) = some (.inl (.h1m0 at_ fr (i + 1) D kd (Q.set 2 ⟨true, (Q.getD 2 Rqx.z).a1, 1, 0, 2, 1048577, 0, 0, v24, 0, [], 0, 0, 0, 0, 0, false, 0, 0, 0, 0, false, (Q.getD 2 Rqx.z).a22⟩) now Lx0 ve0 wr0 ce0 mo0 ra0 rb0 er0 ph0 Lx1 ve1 wr1 ce1 mo1 ra1 rb1 er1 ph1 [⟨0, 2, 1048577, v24, 0, 0, 0, 0, 0, 0, 0, 0, 0, 0, 0, 0⟩] 0 false false mo2 0 0 0 1 F V W K kp)) := by
   show Zo L0 N at_ fr i 2 D kd Q now v21 1 v24 v25 v26 v27 v28 Lx0 ve0 wr0 ce0 mo0 ra0 rb0 er0 ph0 Lx1 ve1 wr1 ce1 mo1 ra1 rb1 er1 ph1 Lx2 ve2 wr2 ce2 mo2 ra2 rb2 er2 0 F V W K kp = _
   unfold Zo
   repeat (first | refine Zb (by omega) ?_ | refine Zj (by omega) ?_)
   refine Z0 (Zjt (by decide)) ?_
   refine Z0 (Zj (fun x => x hq) rfl) ?_
   repeat (first | refine Zb (by omega) ?_ | refine Zj (by omega) ?_)
   rfl
  exact ⟨_, .mk (Zl4 (L' := [⟨0, 2, 1048577, v24, 0, 0, 0, 0, 0, 0, 0, 0, 0, 0, 0, 0⟩]) (e' := 0) (p' := 1) (q' := ⟨true, (Q.getD 2 Rqx.z).a1, 1, 0, 2, 1048577, 0, 0, v24, 0, [], 0, 0, 0, 0, 0, false, 0, 0, 0, 0, false, (Q.getD 2 Rqx.z).a22⟩) (now' := now) h (Zac h.m (by omega)) Zcw h.la h.lf (fun _ _ => ⟨rfl, rfl⟩) (.look rfl ⟨.inl ⟨rfl, rfl⟩, hq1, rfl, rfl, rfl, rfl, rfl, f8, f10, rfl, rfl, rfl⟩ rfl) (by omega)), fun n => ZH e1⟩
 ·obtain ⟨hq, hp⟩ := ZhB h.t2 p
  have e1 : Zi L0 N (.h2m0 at_ fr i 2 D kd Q now v21 1 v24 v25 v26 v27 v28 Lx0 ve0 wr0 ce0 mo0 ra0 rb0 er0 ph0 Lx1 ve1 wr1 ce1 mo1 ra1 rb1 er1 ph1 Lx2 ve2 wr2 ce2 mo2 ra2 rb2 er2 ph2 F V W K kp) = some (.inl (.h1m0 at_ fr (i + 1) D kd (Q.set 2 (Q.getD 2 Rqx.z)) now Lx0 ve0 wr0 ce0 mo0 ra0 rb0 er0 ph0 Lx1 ve1 wr1 ce1 mo1 ra1 rb1 er1 ph1 Lx2 ve2 wr2 ce2 mo2 ra2 rb2 er2 ph2 F V W K kp)) := by
   show Zo L0 N at_ fr i 2 D kd Q now v21 1 v24 v25 v26 v27 v28 Lx0 ve0 wr0 ce0 mo0 ra0 rb0 er0 ph0 Lx1 ve1 wr1 ce1 mo1 ra1 rb1 er1 ph1 Lx2 ve2 wr2 ce2 mo2 ra2 rb2 er2 ph2 F V W K kp = _
   unfold Zo
   repeat (first | refine Zb (by omega) ?_ | refine Zj (by omega) ?_)
   refine Z0 (Zju hp) ?_
   refine Z0 (Zb hq rfl) ?_
   repeat (first | refine Zb (by omega) ?_ | refine Zj (by omega) ?_)
   rfl
  exact ⟨_, .mk (Zl4 (L' := Lx2) (e' := ve2) (p' := ph2) (q' := (Q.getD 2 Rqx.z)) (now' := now) h (Zac h.m (by omega)) Zcw h.la h.lf (fun _ _ => ⟨rfl, rfl⟩) h.t2 (by omega)), fun n => ZH e1⟩
theorem Zp1 (h : Inv i at_ fr D kd Q now Lx0 Lx1 Lx2 ve0 ve1 ve2 ph0 ph1 ph2 F V W K kp) (hi : i < 100) (hv : v4 = 2) (hk : v22 = 2) (f8 : 8 ≤ v24) (f10 : v24 ≤ 10) (g : v25 < 0) : ∃ y, G (i + 1) y ∧ ∀ n, Zav (Zi L0 N) (n + 1) (.h2m0 at_ fr i v4 D kd Q now v21 v22 v24 v25 v26 v27 v28 Lx0 ve0 wr0 ce0 mo0 ra0 rb0 er0 ph0 Lx1 ve1 wr1 ce1 mo1 ra1 rb1 er1 ph1 Lx2 ve2 wr2 ce2 mo2 ra2 rb2 er2 ph2 F V W K kp) = Zav (Zi L0 N) n y := by
 subst hv; subst hk
 have nw := h.nw; have lq := h.lq
 by_cases p : ph2 = 0
 ·obtain ⟨hq, hq1⟩ := ZhA h.t2 p
  subst p
  have e1 : Zi L0 N (.h2m0 at_ fr i 2 D kd Q now v21 2 v24 v25 v26 v27 v28 Lx0 ve0 wr0 ce0 mo0 ra0 rb0 er0 ph0 Lx1 ve1 wr1 ce1 mo1 ra1 rb1 er1 ph1 Lx2 ve2 wr2 ce2 mo2 ra2 rb2 er2 0 F V W K kp) = some (.inl (.h1m0 at_ fr (i + 1) D kd (Q.set 2 ⟨true, (Q.getD 2 Rqx.z).a1, 2, 0, 2, 1048577, 1, v24, v24, 0, [], 0, 0, 0, 0, 0, false, 0, 0, 0, 0, false, (Q.getD 2 Rqx.z).a22⟩) now Lx0 ve0 wr0 ce0 mo0 ra0 rb0 er0 ph0 Lx1 ve1 wr1 ce1 mo1 ra1 rb1 er1 ph1 [⟨1, 2, 1048577, v24, 1, v24, 0, 0, 0, 0, 0, 0, 0, 0, 0, 0⟩] 0 false false mo2 0 0 0 1 F V W K kp)) := by
   show Zo L0 N at_ fr i 2 D kd Q now v21 2 v24 v25 v26 v27 v28 Lx0 ve0 wr0 ce0 mo0 ra0 rb0 er0 ph0 Lx1 ve1 wr1 ce1 mo1 ra1 rb1 er1 ph1 Lx2 ve2 wr2 ce2 mo2 ra2 rb2 er2 0 F V W K kp = _
   unfold Zo
   repeat (first | refine Zb (by omega) ?_ | refine Zj (by omega) ?_)
   refine Z0 (Zjt (by decide)) ?_
   refine Z0 (Zj (fun x => x hq) rfl) ?_
   repeat (first | refine Zb (by omega) ?_ | refine Zj (by omega) ?_)
   rfl
  exact ⟨_, .mk (Zl4 (L' := [⟨1, 2, 1048577, v24, 1, v24, 0, 0, 0, 0, 0, 0, 0, 0, 0, 0⟩]) (e' := 0) (p' := 1) (q' := ⟨true, (Q.getD 2 Rqx.z).a1, 2, 0, 2, 1048577, 1, v24, v24, 0, [], 0, 0, 0, 0, 0, false, 0, 0, 0, 0, false, (Q.getD 2 Rqx.z).a22⟩) (now' := now) h (Zac h.m (by omega)) Zcw h.la h.lf (fun _ _ => ⟨rfl, rfl⟩) (.look rfl ⟨.inr ⟨rfl, rfl, f8, f10⟩, hq1, rfl, rfl, rfl, rfl, rfl, f8, f10, rfl, rfl, rfl⟩ rfl) (by omega)), fun n => ZH e1⟩
 ·obtain ⟨hq, hp⟩ := ZhB h.t2 p
  have e1 : Zi L0 N (.h2m0 at_ fr i 2 D kd Q now v21 2 v24 v25 v26 v27 v28 Lx0 ve0 wr0 ce0 mo0 ra0 rb0 er0 ph0 Lx1 ve1 wr1 ce1 mo1 ra1 rb1 er1 ph1 Lx2 ve2 wr2 ce2 mo2 ra2 rb2 er2 ph2 F V W K kp) = some (.inl (.h1m0 at_ fr (i + 1) D kd (Q.set 2 (Q.getD 2 Rqx.z)) now Lx0 ve0 wr0 ce0 mo0 ra0 rb0 er0 ph0 Lx1 ve1 wr1 ce1 mo1 ra1 rb1 er1 ph1 Lx2 ve2 wr2 ce2 mo2 ra2 rb2 er2 ph2 F V W K kp)) := by
   show Zo L0 N at_ fr i 2 D kd Q now v21 2 v24 v25 v26 v27 v28 Lx0 ve0 wr0 ce0 mo0 ra0 rb0 er0 ph0 Lx1 ve1 wr1 ce1 mo1 ra1 rb1 er1 ph1 Lx2 ve2 wr2 ce2 mo2 ra2 rb2 er2 ph2 F V W K kp = _
   unfold Zo
   repeat (first | refine Zb (by omega) ?_ | refine Zj (by omega) ?_)
   refine Z0 (Zju hp) ?_
   refine Z0 (Zb hq rfl) ?_
   repeat (first | refine Zb (by omega) ?_ | refine Zj (by omega) ?_)
   rfl
  exact ⟨_, .mk (Zl4 (L' := Lx2) (e' := ve2) (p' := ph2) (q' := (Q.getD 2 Rqx.z)) (now' := now) h (Zac h.m (by omega)) Zcw h.la h.lf (fun _ _ => ⟨rfl, rfl⟩) h.t2 (by omega)), fun n => ZH e1⟩
theorem oth5 (h : Inv i at_ fr D kd Q now Lx0 Lx1 Lx2 ve0 ve1 ve2 ph0 ph1 ph2 F V W K kp) (hi : i < 100) (hk : v22 = 5) : ∃ y, G (i + 1) y ∧ ∀ n, Zav (Zi L0 N) (n + 1) (.h2m0 at_ fr i v4 D kd Q now v21 v22 v24 v25 v26 v27 v28 Lx0 ve0 wr0 ce0 mo0 ra0 rb0 er0 ph0 Lx1 ve1 wr1 ce1 mo1 ra1 rb1 er1 ph1 Lx2 ve2 wr2 ce2 mo2 ra2 rb2 er2 ph2 F V W K kp) = Zav (Zi L0 N) n y := by
 subst hk
 have m := h.m; have dl := m.dl; have d0 := m.d0; have d1 := m.d1; have d2 := m.d2; have w0 := m.wk.w0; have wb := m.wk.wb; have wm := m.wk.wm; have k0 := m.wk.k0; have kb := m.wk.kb
 have ha := ZeP (N := N) m.dl
 by_cases e : (W.getD 1 0) % 4 = 0
 ·have hw : IntKind.i64.wrap ((D.getD 1 RI.z).a2 + 1) = (D.getD 1 RI.z).a2 + 1 := w64 (by omega) (by omega)
  have ht := Zlx (N := N) (v := 1) (o := 9) (n := (D.getD 1 RI.z).a1) m.wk (.inl rfl) (by omega) (by omega) (by decide) (by decide) (by omega)
  have hr := ZjO (N := N) (v := 1) (o := 9) (n := (D.getD 1 RI.z).a1) dl (.inl rfl) (by decide) (by decide) (by omega) rfl
  have e1 : Zi L0 N (.h2m0 at_ fr i v4 D kd Q now v21 5 v24 v25 v26 v27 v28 Lx0 ve0 wr0 ce0 mo0 ra0 rb0 er0 ph0 Lx1 ve1 wr1 ce1 mo1 ra1 rb1 er1 ph1 Lx2 ve2 wr2 ce2 mo2 ra2 rb2 er2 ph2 F V W K kp) = some (.inl (.h1m0 at_ fr (i + 1) (D.set 1 ⟨1, 9, (D.getD 1 RI.z).a2 + 1⟩) kd Q now Lx0 ve0 wr0 ce0 mo0 ra0 rb0 er0 ph0 Lx1 ve1 wr1 ce1 mo1 ra1 rb1 er1 ph1 Lx2 ve2 wr2 ce2 mo2 ra2 rb2 er2 ph2 F V (W.set 1 (4 * 9 + 1)) (K.set 1 ((K.getD 1 0) + 1)) kp)) := by
   show Zo L0 N at_ fr i v4 D kd Q now v21 5 v24 v25 v26 v27 v28 Lx0 ve0 wr0 ce0 mo0 ra0 rb0 er0 ph0 Lx1 ve1 wr1 ce1 mo1 ra1 rb1 er1 ph1 Lx2 ve2 wr2 ce2 mo2 ra2 rb2 er2 ph2 F V W K kp = _
   unfold Zo
   try rw [dl]
   try rw [t1']
   try rw [t1]
   try rw [hw]
   repeat (first | refine Zb (by omega) ?_ | refine Zj (by omega) ?_)
   refine Z0 ha ?_
   refine Z0 ht ?_
   refine Z0 hr ?_
   repeat (first | refine Zb (by omega) ?_ | refine Zj (by omega) ?_)
   rfl
  exact ⟨_, .mk (Znj h (Zl1 m (by omega) (.inl rfl) (by decide) (by decide) rfl (by omega)) (.inl (by rw [g1 m.wk.kl]; omega))), fun n => ZH e1⟩
 ·have ht := Zmx (N := N) (v := 1) (o := 9) (n := (D.getD 1 RI.z).a1) m.wk (.inl rfl) (by omega) (by omega) (by decide) (by decide) (by omega)
  have hr := Zly (N := N) (v := 1) (o := 9) (n := (D.getD 1 RI.z).a1) dl (by omega)
  have e1 : Zi L0 N (.h2m0 at_ fr i v4 D kd Q now v21 5 v24 v25 v26 v27 v28 Lx0 ve0 wr0 ce0 mo0 ra0 rb0 er0 ph0 Lx1 ve1 wr1 ce1 mo1 ra1 rb1 er1 ph1 Lx2 ve2 wr2 ce2 mo2 ra2 rb2 er2 ph2 F V W K kp) = some (.inl (.h1m0 at_ fr (i + 1) D kd Q now Lx0 ve0 wr0 ce0 mo0 ra0 rb0 er0 ph0 Lx1 ve1 wr1 ce1 mo1 ra1 rb1 er1 ph1 Lx2 ve2 wr2 ce2 mo2 ra2 rb2 er2 ph2 F V W K kp)) := by
   show Zo L0 N at_ fr i v4 D kd Q now v21 5 v24 v25 v26 v27 v28 Lx0 ve0 wr0 ce0 mo0 ra0 rb0 er0 ph0 Lx1 ve1 wr1 ce1 mo1 ra1 rb1 er1 ph1 Lx2 ve2 wr2 ce2 mo2 ra2 rb2 er2 ph2 F V W K kp = _
   unfold Zo
   try rw [dl]
   try rw [t1']
   repeat (first | refine Zb (by omega) ?_ | refine Zj (by omega) ?_)
   refine Z0 ha ?_
   refine Z0 ht ?_
   refine Z0 hr ?_
   repeat (first | refine Zb (by omega) ?_ | refine Zj (by omega) ?_)
   rfl
  exact ⟨_, .mk (Znj h (Zac m (by omega)) Zcw), fun n => ZH e1⟩
theorem oth6 (h : Inv i at_ fr D kd Q now Lx0 Lx1 Lx2 ve0 ve1 ve2 ph0 ph1 ph2 F V W K kp) (hi : i < 100) (hk : v22 = 6) : ∃ y, G (i + 1) y ∧ ∀ n, Zav (Zi L0 N) (n + 1) (.h2m0 at_ fr i v4 D kd Q now v21 v22 v24 v25 v26 v27 v28 Lx0 ve0 wr0 ce0 mo0 ra0 rb0 er0 ph0 Lx1 ve1 wr1 ce1 mo1 ra1 rb1 er1 ph1 Lx2 ve2 wr2 ce2 mo2 ra2 rb2 er2 ph2 F V W K kp) = Zav (Zi L0 N) n y := by
 subst hk
 have m := h.m; have dl := m.dl; have d0 := m.d0; have d1 := m.d1; have d2 := m.d2; have w0 := m.wk.w0; have wb := m.wk.wb; have wm := m.wk.wm; have k0 := m.wk.k0; have kb := m.wk.kb
 have ha := ZeP (N := N) m.dl
 by_cases e : (W.getD 1 0) % 4 = 1
 ·have ht := Zmy (N := N) (v := v25 % 8) m.wk (by omega) (by omega) (by omega)
  have hr := Zlz (N := N) (v := v25 % 8) dl (by omega) (by omega) (by omega) (by omega)
  have e1 : Zi L0 N (.h2m0 at_ fr i v4 D kd Q now v21 6 v24 v25 v26 v27 v28 Lx0 ve0 wr0 ce0 mo0 ra0 rb0 er0 ph0 Lx1 ve1 wr1 ce1 mo1 ra1 rb1 er1 ph1 Lx2 ve2 wr2 ce2 mo2 ra2 rb2 er2 ph2 F V W K kp) = some (.inl (.h1m0 at_ fr (i + 1) (D.set 1 ⟨0, v25 % 8, (D.getD 1 RI.z).a2⟩) kd Q now Lx0 ve0 wr0 ce0 mo0 ra0 rb0 er0 ph0 Lx1 ve1 wr1 ce1 mo1 ra1 rb1 er1 ph1 Lx2 ve2 wr2 ce2 mo2 ra2 rb2 er2 ph2 F V (W.set 1 (4 * (v25 % 8))) K kp)) := by
   show Zo L0 N at_ fr i v4 D kd Q now v21 6 v24 v25 v26 v27 v28 Lx0 ve0 wr0 ce0 mo0 ra0 rb0 er0 ph0 Lx1 ve1 wr1 ce1 mo1 ra1 rb1 er1 ph1 Lx2 ve2 wr2 ce2 mo2 ra2 rb2 er2 ph2 F V W K kp = _
   unfold Zo
   try rw [dl]
   try rw [t1']
   try rw [t1]
   repeat (first | refine Zb (by omega) ?_ | refine Zj (by omega) ?_)
   refine Z0 ha ?_
   refine Zb (by omega) ?_
   refine Z0 ht ?_
   refine Z0 hr ?_
   repeat (first | refine Zb (by omega) ?_ | refine Zj (by omega) ?_)
   rfl
  exact ⟨_, .mk (Znj h (Zmz m (by omega) (by omega) (by omega) rfl (by omega)) (.inr ⟨rfl, .inr (by omega)⟩)), fun n => ZH e1⟩
 ·skip
  have e1 : Zi L0 N (.h2m0 at_ fr i v4 D kd Q now v21 6 v24 v25 v26 v27 v28 Lx0 ve0 wr0 ce0 mo0 ra0 rb0 er0 ph0 Lx1 ve1 wr1 ce1 mo1 ra1 rb1 er1 ph1 Lx2 ve2 wr2 ce2 mo2 ra2 rb2 er2 ph2 F V W K kp) = some (.inl (.h1m0 at_ fr (i + 1) D kd Q now Lx0 ve0 wr0 ce0 mo0 ra0 rb0 er0 ph0 Lx1 ve1 wr1 ce1 mo1 ra1 rb1 er1 ph1 Lx2 ve2 wr2 ce2 mo2 ra2 rb2 er2 ph2 F V W K kp)) := by
   show Zo L0 N at_ fr i v4 D kd Q now v21 6 v24 v25 v26 v27 v28 Lx0 ve0 wr0 ce0 mo0 ra0 rb0 er0 ph0 Lx1 ve1 wr1 ce1 mo1 ra1 rb1 er1 ph1 Lx2 ve2 wr2 ce2 mo2 ra2 rb2 er2 ph2 F V W K kp = _
   unfold Zo
   try rw [dl]
   try rw [t1']
   repeat (first | refine Zb (by omega) ?_ | refine Zj (by omega) ?_)
   refine Z0 ha ?_
   refine Zj (by omega) ?_
   repeat (first | refine Zb (by omega) ?_ | refine Zj (by omega) ?_)
   rfl
  exact ⟨_, .mk (Znj h (Zac m (by omega)) Zcw), fun n => ZH e1⟩
theorem goes (h : Inv i at_ fr D kd Q now Lx0 Lx1 Lx2 ve0 ve1 ve2 ph0 ph1 ph2 F V W K kp) (hi : i < 100) (h0 : 0 ≤ v4) (h2 : v4 ≤ 2) (f8 : 8 ≤ v24) (f10 : v24 ≤ 10) (g : v25 < 0) : ∃ y c, G (i + 1) y ∧ c ≤ 4 ∧ ∀ n, Zav (Zi L0 N) (n + c) (.h2m0 at_ fr i v4 D kd Q now v21 v22 v24 v25 v26 v27 v28 Lx0 ve0 wr0 ce0 mo0 ra0 rb0 er0 ph0 Lx1 ve1 wr1 ce1 mo1 ra1 rb1 er1 ph1 Lx2 ve2 wr2 ce2 mo2 ra2 rb2 er2 ph2 F V W K kp) = Zav (Zi L0 N) n y := by
 have h3 : v4 = 0 ∨ v4 = 1 ∨ v4 = 2 := by omega
 by_cases k1 : v22 = 1
 ·rcases h3 with hv | hv | hv
  ·obtain ⟨y, a, b⟩ := Zpw h hi hv k1 f8 f10 g; exact ⟨y, 1, a, by decide, b⟩
  ·obtain ⟨y, a, b⟩ := Zpy h hi hv k1 f8 f10 g; exact ⟨y, 1, a, by decide, b⟩
  ·obtain ⟨y, a, b⟩ := Zp0 h hi hv k1 f8 f10 g; exact ⟨y, 1, a, by decide, b⟩
 by_cases k2 : v22 = 2
 ·rcases h3 with hv | hv | hv
  ·obtain ⟨y, a, b⟩ := Zpx h hi hv k2 f8 f10 g; exact ⟨y, 1, a, by decide, b⟩
  ·obtain ⟨y, a, b⟩ := Zpz h hi hv k2 f8 f10 g; exact ⟨y, 1, a, by decide, b⟩
  ·obtain ⟨y, a, b⟩ := Zp1 h hi hv k2 f8 f10 g; exact ⟨y, 1, a, by decide, b⟩
 by_cases k5 : v22 = 5
 ·obtain ⟨y, a, b⟩ := oth5 h hi k5; exact ⟨y, 1, a, by decide, b⟩
 by_cases k6 : v22 = 6
 ·obtain ⟨y, a, b⟩ := oth6 h hi k6; exact ⟨y, 1, a, by decide, b⟩
 rcases h3 with hv | hv | hv
 ·obtain ⟨y, a, b⟩ := turn0 h hi hv k1 k2 k5 k6; exact ⟨y, 4, a, by decide, b⟩
 ·obtain ⟨y, a, b⟩ := turn1 h hi hv k1 k2 k5 k6; exact ⟨y, 4, a, by decide, b⟩
 ·obtain ⟨y, a, b⟩ := turn2 h hi hv k1 k2 k5 k6; exact ⟨y, 4, a, by decide, b⟩
end
theorem loop {L0 : List RK} {N : Nat} : ∀ (m i n : Nat) (x : Zf), i + m = 100 → 5 * m + 1 ≤ n → G i x → Zav (Zi L0 N) n x = some .r0
 | 0, i, n, _, hi, hn, @G.mk _ at_ fr now D kd Q Lx0 Lx1 Lx2 ve0 ve1 ve2 wr0 ce0 wr1 ce1 wr2 ce2 mo0 ra0 rb0 er0 ph0 mo1 ra1 rb1 er1 ph1 mo2 ra2 rb2 er2 ph2 F V W K kp h => by
  obtain ⟨n, rfl⟩ : ∃ m, n = m + 1 := ⟨n - 1, by omega⟩
  refine ZjN ?_
  show ZaD L0 N at_ fr i D kd Q now Lx0 ve0 wr0 ce0 mo0 ra0 rb0 er0 ph0 Lx1 ve1 wr1 ce1 mo1 ra1 rb1 er1 ph1 Lx2 ve2 wr2 ce2 mo2 ra2 rb2 er2 ph2 F V W K kp = _
  unfold ZaD
  by_cases c : (i : Int) < (L0.length : Int)
  ·exact Zb c (Zj (by omega) rfl)
  ·exact Zj c rfl
 | m + 1, i, n, _, hi, hn, @G.mk _ at_ fr now D kd Q Lx0 Lx1 Lx2 ve0 ve1 ve2 wr0 ce0 wr1 ce1 wr2 ce2 mo0 ra0 rb0 er0 ph0 mo1 ra1 rb1 er1 ph1 mo2 ra2 rb2 er2 ph2 F V W K kp h => by
  obtain ⟨n, rfl⟩ : ∃ m, n = m + 1 := ⟨n - 1, by omega⟩
  by_cases c : (i : Int) < (L0.length : Int)
  ·have e1 := show Zi L0 N (.h1m0 at_ fr i D kd Q now Lx0 ve0 wr0 ce0 mo0 ra0 rb0 er0 ph0 Lx1 ve1 wr1 ce1 mo1 ra1 rb1 er1 ph1 Lx2 ve2 wr2 ce2 mo2 ra2 rb2 er2 ph2 F V W K kp) = some (.inl (.h2m0 at_ fr i ((IntKind.u64.wrap (L0.getD i RK.z).a0) % 3) D kd Q now (L0.getD i RK.z).a0 (L0.getD i RK.z).a1 (8 + ((IntKind.u64.wrap (L0.getD i RK.z).a3) % 3)) (-1 - ((IntKind.u64.wrap (L0.getD i RK.z).a4) % 2)) (L0.getD i RK.z).a5 (L0.getD i RK.z).a6 (L0.getD i RK.z).a7 Lx0 ve0 wr0 ce0 mo0 ra0 rb0 er0 ph0 Lx1 ve1 wr1 ce1 mo1 ra1 rb1 er1 ph1 Lx2 ve2 wr2 ce2 mo2 ra2 rb2 er2 ph2 F V W K kp)) from Zb c (Zb (by omega) rfl)
   refine (ZH e1).trans ?_
   obtain ⟨y, c, hy, hc, hs⟩ := goes (L0 := L0) (N := N) (v4 := (IntKind.u64.wrap (L0.getD i RK.z).a0) % 3) (v21 := (L0.getD i RK.z).a0) (v22 := (L0.getD i RK.z).a1) (v24 := 8 + ((IntKind.u64.wrap (L0.getD i RK.z).a3) % 3)) (v25 := -1 - ((IntKind.u64.wrap (L0.getD i RK.z).a4) % 2)) (v26 := (L0.getD i RK.z).a5) (v27 := (L0.getD i RK.z).a6) (v28 := (L0.getD i RK.z).a7) (wr0 := wr0) (ce0 := ce0) (wr1 := wr1) (ce1 := ce1) (wr2 := wr2) (ce2 := ce2) (mo0 := mo0) (ra0 := ra0) (rb0 := rb0) (er0 := er0) (mo1 := mo1) (ra1 := ra1) (rb1 := rb1) (er1 := er1) (mo2 := mo2) (ra2 := ra2) (rb2 := rb2) (er2 := er2) h (by omega) (by omega) (by omega) (by omega) (by omega) (by omega)
   obtain ⟨n, rfl⟩ : ∃ k, n = k + c := ⟨n - c, by omega⟩
   exact (hs n).trans (loop m (i + 1) n y (by omega) (by omega) hy)
  ·refine ZjN ?_
   show ZaD L0 N at_ fr i D kd Q now Lx0 ve0 wr0 ce0 mo0 ra0 rb0 er0 ph0 Lx1 ve1 wr1 ce1 mo1 ra1 rb1 er1 ph1 Lx2 ve2 wr2 ce2 mo2 ra2 rb2 er2 ph2 F V W K kp = _
   exact Zj c rfl
theorem runs (L0 : List RK) (N : Nat) (hN : 1000 ≤ N) : ZfL L0 N = some .r0 := by
 have e : Zb4 L0 N = some (.inl (.h1m0 [⟨0, 0⟩, ⟨0, 0⟩, ⟨0, 0⟩] [false, false, false] 0 [⟨0, 0, 0⟩, ⟨0, 0, 0⟩, ⟨0, 0, 0⟩, ⟨0, 0, 0⟩, ⟨0, 0, 0⟩] 0 [⟨false, 0, 0, 0, 0, 0, 0, 0, 0, 0, [], 0, 0, 0, 0, 0, false, 0, 0, 0, 0, false, 0⟩, ⟨false, 1, 0, 0, 0, 0, 0, 0, 0, 0, [], 0, 0, 0, 0, 0, false, 0, 0, 0, 0, false, 0⟩, ⟨false, 2, 0, 0, 0, 0, 0, 0, 0, 0, [], 0, 0, 0, 0, 0, false, 0, 0, 0, 0, false, 0⟩] 0 [⟨0, 0, 0, 0, 0, 0, 0, 0, 0, 0, 0, 0, 0, 0, 0, 0⟩] 0 false false 0 0 0 0 0 [⟨0, 0, 0, 0, 0, 0, 0, 0, 0, 0, 0, 0, 0, 0, 0, 0⟩] 0 false false 0 0 0 0 0 [⟨0, 0, 0, 0, 0, 0, 0, 0, 0, 0, 0, 0, 0, 0, 0, 0⟩] 0 false false 0 0 0 0 0 [⟨2, 0⟩, ⟨2, 0⟩, ⟨2, 0⟩, ⟨2, 0⟩, ⟨2, 0⟩, ⟨2, 0⟩, ⟨2, 0⟩, ⟨2, 0⟩, ⟨1, 0⟩, ⟨1, 0⟩, ⟨1, 0⟩, ⟨1, 0⟩, ⟨1, 0⟩, ⟨1, 0⟩, ⟨1, 0⟩, ⟨1, 0⟩] [⟨0, 0⟩, ⟨2, 0⟩, ⟨2, 0⟩, ⟨2, 0⟩, ⟨2, 0⟩, ⟨2, 0⟩, ⟨2, 0⟩, ⟨2, 0⟩, ⟨2, 0⟩, ⟨1, 0⟩, ⟨1, 0⟩, ⟨1, 0⟩, ⟨1, 0⟩, ⟨1, 0⟩, ⟨1, 0⟩, ⟨1, 0⟩, ⟨1, 0⟩] [0, 0, 0, 0, 0] [0, 0, 0, 0, 0] 0)) := by
  unfold Zb4
  refine Z0 (Zj (by decide) (Zj (by decide) rfl)) (Zj (by decide) ?_)
  refine Z0 (Zj (by decide) (Zj (by decide) rfl)) (Zj (by decide) ?_)
  exact Z0 (Zj (by decide) (Zj (by decide) rfl)) (Zj (by decide) rfl)
 refine (ZpM e).trans (loop 100 0 N _ rfl (by omega) (.mk ⟨rfl, rfl, rfl, Nat.le_refl _, ⟨⟨rfl, rfl, by decide, by decide, by decide, by decide, by decide, by decide, by decide⟩, rfl, rfl, rfl, rfl, rfl, rfl, rfl, by decide, by decide, by decide⟩, .idle rfl rfl (by decide) (by decide) rfl, .idle rfl rfl (by decide) (by decide) rfl, .idle rfl rfl (by decide) (by decide) rfl⟩))
end Po1
end Ev
end Go.Proofs.YtiijipocjellpaaGreat
/- A region that draws its order, whose first operations only read (and make memory in calls), and whose last ones, in a forced order among themselves, make and write new memory: but these may come up early. -/
namespace Go.Proofs.YtiijipocjellpaaGreat
open Go.RowKit

section
variable {P : Program}

def Calm (P : Program) (W : World) (o : Oper) (a : Act) (v : Value) : Prop :=
 ∀ w, Below W.heap.size W w → o.quietAt P a (fun w' => Below w.heap.size w w') w v

def YieldsC (P : Program) (ops : Array Oper) (W : World) (o : Oper) (v : Value) (a : Act) : Prop :=
 (Region.wanted o (yielded ops a.tmps) = true ∧ Calm P W o a v) ∨ (Region.wanted o (yielded ops a.tmps) = false ∧ v = undef)
theorem ZjP {a b c : World} (h : Below a.heap.size a b) (k : Below b.heap.size b c) : Below a.heap.size a c := h.trans (k.mono h.size)

def Closed (md : Region.Mode) (ops : Array Oper) (listed : Array Bool) : Prop :=
 ∀ j oj, ops[j]? = some oj → listed.getD j false = true → ∀ e ∈ oj.after, Region.binds md e = true → listed.getD e.on false = true
def Zl5 (md : Region.Mode) (ops : Array Oper) : Nat → Nat → Nat → Bool
 | 0, _, _ => false
 | f + 1, t, i => Region.waitsFor md ops t i || (List.range ops.size).any fun k => Region.waitsFor md ops t k && Zl5 md ops f k i
theorem Closed.waits {md : Region.Mode} {ops : Array Oper} {listed : Array Bool} (h : Closed md ops listed) : ∀ (f t i : Nat), listed.getD t false = true → Zl5 md ops f t i = true → listed.getD i false = true
 | 0, _, _, _, hw => by cases hw
 | f + 1, t, i, ht, hw => by
  simp only [Zl5, Bool.or_eq_true, List.any_eq_true, Bool.and_eq_true] at hw
  rcases hw with hw | ⟨k, _, hw, hr⟩
  ·obtain ⟨o, ho, e, he, hb, rfl⟩ := Region.waitsFor_spec hw
   exact h t o ho ht e he hb
  ·obtain ⟨o, ho, e, he, hb, rfl⟩ := Region.waitsFor_spec hw
   exact h.waits f e.on i (h t o ho ht e he hb) hr

theorem YieldsC.wpOp {ops : Array Oper} {W : World} {i : Nat} {o : Oper} {v : Value} {a : Act} {w : World} (hi : ops[i]? = some o) (hy : YieldsC P ops W o v a) (hb : Below W.heap.size W w)
  {K : Act → World → Prop} {Q : Exit → Act → World → Prop} (h : ∀ w', Below w.heap.size w w' → K (a.put o.dst v) w') : wpOp P ops Q i K a w := by
 unfold Go.wpOp
 simp only [hi]
 rcases hy with ⟨hw, hv⟩ | ⟨hw, rfl⟩
 ·simp only [hw, if_true]
  exact .inl (Oper.wp_of_quiet (C := fun w' => Below w.heap.size w w') (K := fun a' => a' = a.put o.dst v) (Below.refl _ _) (fun a' w' hw' ha => by subst ha; exact h w' hw')
   ⟨v, fun w1 hw1 => by
    have h1 := hv w1 (ZjP hb hw1)
    unfold Oper.quietAt at h1 ⊢
    generalize (execOp a.eval o).run P w1 = r at *
    cases r with
    | ok n w' =>
     cases n <;> simp only [Oper.quietUpon] at h1 ⊢
     case value u => exact h1
     case skip => exact h1
     case enter f args => exact ⟨h1.1, h1.2.mono fun e w2 ⟨he, hb2⟩ => ⟨he, ZjP hw1 hb2⟩⟩
    | halt x w' => simp only [Oper.quietUpon] at h1, rfl⟩)
 ·simp only [hw, Bool.false_eq_true, if_false]
  exact h w (Below.refl _ _)

end
end Go.Proofs.YtiijipocjellpaaGreat
/- The law PlainOne, for every input. -/
namespace Go.Proofs.YtiijipocjellpaaGreat
open Go.IntKind (i64)
open Go.ChangeShapes Go.WideShapes Go.ChangeAt Go.RowKit
namespace Ev
namespace PlainOne
set_option linter.unusedVariables false
def el0R (x : RK) : Prop := (i64.min ≤ x.a0 ∧ x.a0 ≤ i64.max) ∧ (i64.min ≤ x.a1 ∧ x.a1 ≤ i64.max) ∧ (i64.min ≤ x.a2 ∧ x.a2 ≤ i64.max) ∧ (i64.min ≤ x.a3 ∧ x.a3 ≤ i64.max) ∧ (i64.min ≤ x.a4 ∧ x.a4 ≤ i64.max) ∧ (i64.min ≤ x.a5 ∧ x.a5 ≤ i64.max) ∧ (i64.min ≤ x.a6 ∧ x.a6 ≤ i64.max) ∧ (i64.min ≤ x.a7 ∧ x.a7 ≤ i64.max)
theorem el0 {H : Type} {enc : TypeId × Value → H} {w : World} {cs : List Value} (hl : cs.length = 8) (h : Trd enc Tryz.prog w 65 cs) : ∃ x : RK, DecL w cs (RE.cel x) ∧ el0R x := by
 have h0 := ZpJ (by kernel_rfl : Tryz.prog.cellsOf 65 = 8) hl h
 have h1 := Zcj 0 1 8 Tryz.underlying65 h0 0 (te := 3) (o' := 0) (by kernel_rfl) rfl (by kernel_rfl) (by kernel_rfl) (by decide)
 obtain ⟨x0, e0, b0⟩ := ZdT Tryz.underlying3 (by kernel_rfl) h1
 have h2 := Zcj 1 1 8 Tryz.underlying65 h0 1 (te := 3) (o' := 1) (by kernel_rfl) rfl (by kernel_rfl) (by kernel_rfl) (by decide)
 obtain ⟨x1, e1, b1⟩ := ZdT Tryz.underlying3 (by kernel_rfl) h2
 have h3 := Zcj 2 1 8 Tryz.underlying65 h0 2 (te := 3) (o' := 2) (by kernel_rfl) rfl (by kernel_rfl) (by kernel_rfl) (by decide)
 obtain ⟨x2, e2, b2⟩ := ZdT Tryz.underlying3 (by kernel_rfl) h3
 have h4 := Zcj 3 1 8 Tryz.underlying65 h0 3 (te := 3) (o' := 3) (by kernel_rfl) rfl (by kernel_rfl) (by kernel_rfl) (by decide)
 obtain ⟨x3, e3, b3⟩ := ZdT Tryz.underlying3 (by kernel_rfl) h4
 have h5 := Zcj 4 1 8 Tryz.underlying65 h0 4 (te := 3) (o' := 4) (by kernel_rfl) rfl (by kernel_rfl) (by kernel_rfl) (by decide)
 obtain ⟨x4, e4, b4⟩ := ZdT Tryz.underlying3 (by kernel_rfl) h5
 have h6 := Zcj 5 1 8 Tryz.underlying65 h0 5 (te := 3) (o' := 5) (by kernel_rfl) rfl (by kernel_rfl) (by kernel_rfl) (by decide)
 obtain ⟨x5, e5, b5⟩ := ZdT Tryz.underlying3 (by kernel_rfl) h6
 have h7 := Zcj 6 2 8 Tryz.underlying65 h0 6 (te := 42) (o' := 6) (by kernel_rfl) rfl (by kernel_rfl) (by kernel_rfl) (by decide)
 have h8 := Zcj 0 1 2 Tryz.underlying42 h7 0 (te := 40) (o' := 6) (by kernel_rfl) rfl (by kernel_rfl) (by kernel_rfl) (by decide)
 obtain ⟨x6, e6, b6⟩ := ZdT Tryz.underlying40 (by kernel_rfl) h8
 have h9 := Zcj 1 1 2 Tryz.underlying42 h7 1 (te := 3) (o' := 7) (by kernel_rfl) rfl (by kernel_rfl) (by kernel_rfl) (by decide)
 obtain ⟨x7, e7, b7⟩ := ZdT Tryz.underlying3 (by kernel_rfl) h9
 refine ⟨(⟨x0, x1, x2, x3, x4, x5, x6, x7⟩ : RK), Zpi (by rw [hl, Enc.clen]; rfl) (fun j y hy => ?_), ⟨b0, b1, b2, b3, b4, b5, b6, b7⟩⟩
 have := (ZcY (w := w) (k := 0) e0 .i (ZcY (w := w) (k := 1) e1 .i (ZcY (w := w) (k := 2) e2 .i (ZcY (w := w) (k := 3) e3 .i (ZcY (w := w) (k := 4) e4 .i (ZcY (w := w) (k := 5) e5 .i (ZcY (w := w) (k := 6) e6 .i (ZcY (w := w) (k := 7) e7 .i (ZpI (w := w)))))))))) j y hy
 simpa using this
theorem own : ownKnob Tryz.prog.godebug = none := by kernel_rfl
set_option maxRecDepth 100000 in
theorem lifted (os : Os) (started : os.Started) (H : Type) (enc : TypeId × Value → H) :
  ReturnsInHanded {} Tryz.checked os 5 .any (Rows.plainOneSpec.pre6 enc Tryz.prog Tryz.f5 Rows.plainOneRow.domain false) (Rows.plainOneSpec.post enc Tryz.prog Tryz.f5 false true false false) := by
 refine ZnE (C := Tryz.checked) own started (by kernel_rfl) Tryz.func5 rfl rfl Tryz.underlying4 ?_ (by kernel_rfl) (by kernel_rfl)
  (ChangeSpec.witness6 (enc := enc) (C := Tryz.checked) false ⟨#[], #[.slice none 0 0], []⟩ 8 (by kernel_rfl) (by kernel_rfl) (by kernel_rfl) (by kernel_rfl)) ?_
 ·intro ds hlen
  have hlen : ds.length = 1 := hlen.trans (by kernel_rfl)
  match ds, hlen with
  | [_], _ => rfl
 intro W base args ds p hval hA hlt hsz
 rw [Tryz.params5] at hA hval
 obtain ⟨v0, vs0, d0, ds0, p0, q0, hargs, rfl, rfl, h0, r0⟩ := trodAll_cons hA
 obtain ⟨rfl, rfl, rfl⟩ := trodAll_nil r0
 obtain rfl : args = #[v0] := by cases args; simp_all
 obtain ⟨a0, l0, c0, rfl⟩ := Go.WideShapes.okWide_slice Tryz.underlying63 (hval 0 63 v0 rfl rfl)
 obtain ⟨L0, u0, e0, D0, n0, m0⟩ := ZnP (E := RE) (Q := el0R) Tryz.underlying63 (by kernel_rfl) (by decide) (fun _ => el0) (Zpj h0)
 obtain rfl : u0 = .slice a0 l0 c0 := by have := e0; simp [Value.cells] at this; exact this.symm
 exact ZpE (Zg9 L0 100000 _ (Po1.runs L0 100000 (by decide))) (Zot (show VR (ιMk W) (ms RE L0) _ from D0.vr) ZoU) rfl
theorem over : Rows.plainOneRow.holds Tryz.pinned (OpenSpec.ofChange Rows.plainOneSpec) :=
 OpenClaim.holds_of_wide 5 Tryz.f5 rfl rfl rfl rfl rfl rfl rfl ⟨rfl, rfl, rfl, rfl, rfl⟩ rfl rfl rfl rfl rfl (by kernel_rfl) Tryz.func5 (by kernel_rfl)
  (of_decide_eq_true (by kernel_rfl)) (by unfold Func.isWrapper; first | (rw [if_pos (by decide +kernel)]; kernel_rfl) | (rw [if_neg (by decide +kernel)]; exact ⟨rfl, rfl⟩))
  (fun os started H enc _ => lifted os started H enc)
theorem proved : Rows.PlainOneSaid := over
#print axioms proved
end PlainOne
end Ev
end Go.Proofs.YtiijipocjellpaaGreat
