/- Part 4. -/
import Derived.Test.YtgdboobcomomdaaGreatZac
import Derived.Ground.SlsfProg
import Derived.Ground.SlgcProg
import Derived.Shelf.SlicesG.Cmp
/- How records are written, and which functions are told. -/
namespace Go.Proofs.YtgdboobcomomdaaGreat
open Go.RowKit
namespace Ev
set_option linter.unusedVariables false
abbrev vq : Value := .int .i64 0
abbrev vf : Value := .bool false
abbrev vT : Value := .bool true
abbrev vn : Value := .slice none 0 0
abbrev vtt : Value := .tuple #[]
noncomputable abbrev dS {α : Type} (a : α) : Bool := dP (a = a)
theorem ltA {p : Prop} (h : p := by first | omega | (simp only [List.length_set, List.length_append, List.length_cons, List.length_nil, List.length_replicate, List.length_take, List.length_drop] at * <;> omega)) : p := h
theorem eqA {p : Prop} (h : p := by first | rfl | omega | (simp only [List.length_set, List.length_append, List.length_cons, List.length_nil, List.length_replicate, List.length_take, List.length_drop] at * <;> omega)) : p := h
theorem rr {p q : Prop} (h : p := by rfl) (h2 : q := by rfl) : p ∧ q := ⟨h, h2⟩
section
variable {l : List (Bool × Bool)}
theorem oT {a b : Int} (hl : ∀ q ∈ l, q.1 = q.2) (h : a = b := by omega) : ∀ q ∈ ((a == b), true) :: l, q.1 = q.2 := Zb (bT h) hl
theorem oF {a b : Int} (hl : ∀ q ∈ l, q.1 = q.2) (h : ¬ a = b := by omega) : ∀ q ∈ ((a == b), false) :: l, q.1 = q.2 := Zb (bF h) hl
theorem oD {a b : Int} (hl : ∀ q ∈ l, q.1 = q.2) (h : a ≠ b := by omega) : ∀ q ∈ ((a != b), true) :: l, q.1 = q.2 := Zb (bne_iff_ne.2 h) hl
theorem oE {a b : Int} (hl : ∀ q ∈ l, q.1 = q.2) (h : a = b := by omega) : ∀ q ∈ ((a != b), false) :: l, q.1 = q.2 := Zb (bne_eq_false_iff_eq.2 h) hl
theorem oY {p : Prop} [Decidable p] (hl : ∀ q ∈ l, q.1 = q.2) (h : p := by omega) : ∀ q ∈ (decide p, true) :: l, q.1 = q.2 := Zb (decide_eq_true h) hl
theorem oN {p : Prop} [Decidable p] (hl : ∀ q ∈ l, q.1 = q.2) (h : ¬ p := by omega) : ∀ q ∈ (decide p, false) :: l, q.1 = q.2 := Zb (decide_eq_false h) hl
theorem oR {α : Type} {a b : α} (hl : ∀ q ∈ l, q.1 = q.2) (h : a = b := by rfl) : ∀ q ∈ (dP (a = b), true) :: l, q.1 = q.2 := Zb (Zw h) hl
theorem oB {a b : Nat} (hl : ∀ q ∈ l, q.1 = q.2) (h : a < b := by omega) : ∀ q ∈ (Nat.blt a b, true) :: l, q.1 = q.2 := Zb (ZoT h) hl
theorem oI {a b : Int} (hl : ∀ q ∈ l, q.1 = q.2) (h : a = b := by first | rfl | exact ZoS (by omega)) : ∀ q ∈ ((a == b), true) :: l, q.1 = q.2 := Zb (bT h) hl
end
def E_ii : Enc R_ii := ⟨fun x => [.i x.a0, .i x.a1], 2, R_ii.z, fun _ => rfl, fun _ => rfl⟩
def Zk : Enc RA := ⟨fun x => [.i x.a0, .i x.a1, .i x.a2], 3, RA.z, fun _ => rfl, fun _ => rfl⟩
def E_iiiiii : Enc RB := ⟨fun x => [.i x.a0, .i x.a1, .i x.a2, .i x.a3, .i x.a4, .i x.a5], 6, RB.z, fun _ => rfl, fun _ => rfl⟩
noncomputable def E_iiiiiiAi : Enc R_iiiiiiAi := ⟨fun x => [.i x.a0, .i x.a1, .i x.a2, .i x.a3, .i x.a4, .i x.a5, (mc E_ii x.a6), .i x.a7], 8, R_iiiiiiAi.z, fun _ => rfl, fun _ => rfl⟩
section
variable {P : Program} {kt : TypeId}
variable {fs : Array Field} (hu : P.underlying kt = some (.struct fs)) (hk : ∀ a b : Int, Zi3 P #[.int .i64 a, .int .i64 b] fs.toList = true) (he : ∀ a b c d : Int, Zi1 P kt (.agg #[.int .i64 a, .int .i64 b]) (.agg #[.int .i64 c, .int .i64 d]) = some ((a == c) && ((b == d) && true)))
include hu hk he
omit hu hk he in
omit hu hk he in
end
instance : Inhabited R_ii := ⟨R_ii.z⟩
instance : Inhabited RA := ⟨RA.z⟩
instance : Inhabited RB := ⟨RB.z⟩
instance : Inhabited R_iiiiiiAi := ⟨R_iiiiiiAi.z⟩
def ZmS : FuncId → Option (List Value → Option Value) := fun f =>
 bif Nat.beq f 9 then some (fun l => match l with | [] => some (.bool true) | _ => none) else
 none
theorem Zn3 (w : World) : Calls Tryz.prog 9 #[] w (Ret (.bool true) w) := ZoQ 40000 w (by kernel_rfl) rfl
theorem ZoX : ZiK ZmS := fun f g h => by
 unfold ZmS at h
 cases hb : Nat.beq f 9 with
 | true =>
  rw [hb] at h
  obtain rfl := Nat.eq_of_beq_eq_true hb
  simp only [cond_true, Option.some.injEq] at h
  subst h
  refine ⟨⟨_, _, Tryz.func9, rfl⟩, fun args v ha hv w => ?_⟩
  obtain ⟨l⟩ := args
  cases l with
  | nil =>
   change some (Value.bool true) = some v at hv
   injection hv with hv
   subst hv
   exact Zn3 w
  | cons x l => change (none : Option Value) = some v at hv; cases hv
 | false =>
  rw [hb] at h
  simp only [cond_false] at h
  cases h
def Zov : FuncId → Bool := fun f => Nat.beq f 3 || Nat.beq f 4 || Nat.beq f 8 || Nat.beq f 6 || Nat.beq f 7 || Nat.beq f 12 || Nat.beq f 5 || Nat.beq f 11 || Nat.beq f 16
noncomputable def Zx : FuncId → Option Ext := ZmM (ZnX ZmS) Zov
theorem ZcN : Fit Tryz.prog Zx := fitT (fitS ZoX) (fun f h => by
 simp only [Zov, Bool.or_eq_true] at h
 simp only [Nat.beq_eq] at h
 rcases h with (((((((rfl | rfl) | rfl) | rfl) | rfl) | rfl) | rfl) | rfl) | rfl
 ·exact ⟨_, _, Tryz.func3, rfl⟩
 ·exact ⟨_, _, Tryz.func4, rfl⟩
 ·exact ⟨_, _, Tryz.func8, rfl⟩
 ·exact ⟨_, _, Tryz.func6, rfl⟩
 ·exact ⟨_, _, Tryz.func7, rfl⟩
 ·exact ⟨_, _, Tryz.func12, rfl⟩
 ·exact ⟨_, _, Tryz.func5, rfl⟩
 ·exact ⟨_, _, Tryz.func11, rfl⟩
 ·exact ⟨_, _, Tryz.func16, rfl⟩
 )
end Ev
end Go.Proofs.YtgdboobcomomdaaGreat
/- slices.SortFunc, laid at this program. -/
namespace Go.Proofs
open Go.Shelf
def YtgdboobcomomdaaGreat.Ev.sortF_ren : Go.Shelf.Ren := ⟨fun | 6 => 16 | 15 => 30 | 14 => 29 | 28 => 55 | 29 => 56 | 20 => 47 | 21 => 48 | 22 => 49 | 23 => 50 | 24 => 51 | 25 => 52 | 26 => 53 | 27 => 54 | 46 => 74 | 47 => 75 | 48 => 76 | 49 => 77 | 50 => 78 | 57 => 92 | n => n, fun | 22 => 42 | 24 => 45 | 25 => 60 | 3 => 3 | 39 => 82 | 0 => 0 | 53 => 114 | 55 => 116 | 4 => 4 | 46 => 108 | 45 => 107 | 50 => 25 | 5 => 5 | 9 => 9 | 66 => 149 | 70 => 153 | 76 => 168 | 77 => 169 | n => n, fun | n => n⟩
theorem YtgdboobcomomdaaGreat.Ev.sortF : Go.Proofs.SlLaysF0.n6 Tryz.prog YtgdboobcomomdaaGreat.Ev.sortF_ren := {
  mixed := by kernel_rfl
  f6 := ⟨Tryz.f16.name, by decide, Tryz.func16.trans (congrArg some (by kernel_rfl))⟩
  f14 := ⟨Tryz.f29.name, by decide, Tryz.func29.trans (congrArg some (by kernel_rfl))⟩
  f15 := Tryz.func30.trans (congrArg some (by kernel_rfl))
  f20 := ⟨Tryz.f47.name, by decide, Tryz.func47.trans (congrArg some (by kernel_rfl))⟩
  f21 := ⟨Tryz.f48.name, by decide, Tryz.func48.trans (congrArg some (by kernel_rfl))⟩
  f22 := ⟨Tryz.f49.name, by decide, Tryz.func49.trans (congrArg some (by kernel_rfl))⟩
  f23 := ⟨Tryz.f50.name, by decide, Tryz.func50.trans (congrArg some (by kernel_rfl))⟩
  f24 := ⟨Tryz.f51.name, by decide, Tryz.func51.trans (congrArg some (by kernel_rfl))⟩
  f25 := ⟨Tryz.f52.name, by decide, Tryz.func52.trans (congrArg some (by kernel_rfl))⟩
  f26 := ⟨Tryz.f53.name, by decide, Tryz.func53.trans (congrArg some (by kernel_rfl))⟩
  f27 := ⟨Tryz.f54.name, by decide, Tryz.func54.trans (congrArg some (by kernel_rfl))⟩
  f28 := Tryz.func55.trans (congrArg some (by kernel_rfl))
  f29 := Tryz.func56.trans (congrArg some (by kernel_rfl))
  f46 := ⟨Tryz.f74.name, by decide, Tryz.func74.trans (congrArg some (by kernel_rfl))⟩
  f47 := Tryz.func75.trans (congrArg some (by kernel_rfl))
  f48 := Tryz.func76.trans (congrArg some (by kernel_rfl))
  f49 := ⟨Tryz.f77.name, by decide, Tryz.func77.trans (congrArg some (by kernel_rfl))⟩
  f50 := ⟨Tryz.f78.name, by decide, Tryz.func78.trans (congrArg some (by kernel_rfl))⟩
  f57 := ⟨Tryz.f92.name, by decide, Tryz.func92.trans (congrArg some (by kernel_rfl))⟩
  t0 := Tryz.underlying0
  a0 := Tryz.isAgg0
  z0 := Tryz.sizeOf0
  v0 := Tryz.zeroValue0
  t3 := Tryz.underlying3
  a3 := Tryz.isAgg3
  z3 := Tryz.sizeOf3
  v3 := Tryz.zeroValue3
  t4 := Tryz.underlying4
  a4 := Tryz.isAgg4
  z4 := Tryz.sizeOf4
  v4 := Tryz.zeroValue4
  t5 := Tryz.underlying5
  a5 := Tryz.isAgg5
  z5 := Tryz.sizeOf5
  v5 := Tryz.zeroValue5
  t9 := Tryz.underlying9
  a9 := Tryz.isAgg9
  z9 := Tryz.sizeOf9
  v9 := Tryz.zeroValue9
  t22 := Tryz.underlying42
  a22 := Tryz.isAgg42
  z22 := Tryz.sizeOf42
  v22 := Tryz.zeroValue42
  t25 := Tryz.underlying60
  a25 := Tryz.isAgg60
  z25 := Tryz.sizeOf60
  v25 := Tryz.zeroValue60
  t39 := Tryz.underlying82
  a39 := Tryz.isAgg82
  z39 := Tryz.sizeOf82
  v39 := Tryz.zeroValue82
  t45 := Tryz.underlying107
  a45 := Tryz.isAgg107
  z45 := Tryz.sizeOf107
  v45 := Tryz.zeroValue107
  t46 := Tryz.underlying108
  a46 := Tryz.isAgg108
  z46 := Tryz.sizeOf108
  v46 := Tryz.zeroValue108
  t50 := Tryz.underlying25
  a50 := Tryz.isAgg25
  z50 := Tryz.sizeOf25
  v50 := Tryz.zeroValue25
  t53 := Tryz.underlying114
  a53 := Tryz.isAgg114
  z53 := Tryz.sizeOf114
  v53 := Tryz.zeroValue114
  t55 := Tryz.underlying116
  a55 := Tryz.isAgg116
  z55 := Tryz.sizeOf116
  v55 := Tryz.zeroValue116
  t66 := Tryz.underlying149
  a66 := Tryz.isAgg149
  z66 := Tryz.sizeOf149
  v66 := Tryz.zeroValue149
  t70 := Tryz.underlying153
  a70 := Tryz.isAgg153
  z70 := Tryz.sizeOf153
  v70 := Tryz.zeroValue153
  t76 := Tryz.underlying168
  a76 := Tryz.isAgg168
  z76 := Tryz.sizeOf168
  v76 := Tryz.zeroValue168
  t77 := Tryz.underlying169
  a77 := Tryz.isAgg169
  z77 := Tryz.sizeOf169
  v77 := Tryz.zeroValue169 }
def YtgdboobcomomdaaGreat.Ev.cmpI_ren : Go.Shelf.Ren := ⟨fun | 5 => 18 | 7 => 31 | n => n, fun | 22 => 3 | 3 => 3 | 4 => 4 | n => n, fun | n => n⟩
theorem YtgdboobcomomdaaGreat.Ev.cmpI : Go.Proofs.SlLaysC2.n5 Tryz.prog YtgdboobcomomdaaGreat.Ev.cmpI_ren := {
  mixed := by kernel_rfl
  f5 := ⟨Tryz.f18.name, by decide, Tryz.func18.trans (congrArg some (by kernel_rfl))⟩
  f7 := ⟨Tryz.f31.name, by decide, Tryz.func31.trans (congrArg some (by kernel_rfl))⟩
  t3 := Tryz.underlying3
  a3 := Tryz.isAgg3
  z3 := Tryz.sizeOf3
  v3 := Tryz.zeroValue3
  t4 := Tryz.underlying4
  a4 := Tryz.isAgg4
  z4 := Tryz.sizeOf4
  v4 := Tryz.zeroValue4
  t22 := Tryz.underlying3
  a22 := Tryz.isAgg3
  z22 := Tryz.sizeOf3
  v22 := Tryz.zeroValue3 }
end Go.Proofs
namespace Go.Proofs.YtgdboobcomomdaaGreat
open Go.RowKit Go.Lib
namespace Ev
def chkI (P : Program) (t : TypeId) (sz : Nat) : Bool := match P.info? t with
 | some i => Nat.beq i.size sz
 | none => false
theorem Zok {P : Program} {t : TypeId} {sz : Nat} (h : chkI P t sz = true) (w : World) : (Go.sizeOf t).run P w = .ok sz w := by
 unfold chkI at h
 split at h
 ·rename_i i hi
  obtain rfl := Nat.eq_of_beq_eq_true h
  simp [Go.sizeOf, typeInfo, hi, Result.andThen, Sem.run]
 ·cases h
theorem ZoC (w : World) : (isAgg 45).run Tryz.prog w = .ok true w := by
 simp [isAgg, run_underlying Tryz.underlying45, Result.andThen, Sem.run]
set_option maxHeartbeats 1000000 in
theorem ZoD (x1 x2 y1 y2 : Value) (m n : Int) (W : World) : Calls Tryz.prog 17 #[.agg #[.int .i64 m, x1, x2], .agg #[.int .i64 n, y1, y2]] W fun e w' => e = .returned (.int .i64 (Lib.compareInt m n)) ∧ ∃ r os, w' = Go.Sort.grow (W.drewN r) os := by
 have hcon := fun W' => AnyG.cmp_Compare_int cmpI m n W'
 change ∀ W', Calls Tryz.prog 18 _ _ _ at hcon
 generalize Lib.compareInt m n = r at hcon ⊢
 go_enter Tryz.func17, Tryz.ntmps17
 go_wp2_with (go_at_call 18; refine (hcon _).mono ?_; rintro e w' ⟨rfl, rfl⟩)
 go_ret
 exact ⟨rfl, 0, _, by rw [Go.Sort.alloc_eq_grow, Go.Sort.alloc_eq_grow, Go.Sort.grow_grow]; rfl⟩
theorem Zmj : Zlh Tryz.prog sortF_ren 3 0 17 := by
 refine ⟨sortF, ZoC, fun w => Zok (t := 45) (by kernel_rfl) w, by decide, enters_of Tryz.func17 (by kernel_rfl) rfl, fun x y m n W hx hy hm hn _ _ => ?_⟩
 match x, hx, hm with
 | [x0, x1, x2], _, hm =>
  match y, hy, hn with
  | [y0, y1, y2], _, hn =>
   obtain rfl : x0 = .int .i64 m := Option.some.inj hm
   obtain rfl : y0 = .int .i64 n := Option.some.inj hn
   exact ZoD x1 x2 y1 y2 m n W
end Ev
end Go.Proofs.YtgdboobcomomdaaGreat
/- Calls do what the plain functions say. -/
namespace Go.Proofs.YtgdboobcomomdaaGreat
open Go.RowKit
namespace Ev
set_option linter.unusedVariables false
set_option maxRecDepth 100000
noncomputable def ZiP (L0 : List R_iiiiiiAi) : Za0 → Value
 | .r0 => vn
 | .r1 w0 => vs 0 0 w0.length w0.length
noncomputable def ZhT (L0 : List R_iiiiiiAi) : Za0 → List (Option AObj)
 | .r0 => []
 | .r1 w0 => [some (.cells (Zd E_iiiiiiAi w0) 31)]

def ZlH : Zaa → Nat
 | .h1m0 => 1
 | .h1m1 v1 v2 => 1
noncomputable def ZmT (L0 : List R_iiiiiiAi) : Zaa → List (Nat × Value)
 | .h1m0 => [(0, ms E_iiiiiiAi L0), (3, vn), (4, vq)]
 | .h1m1 v1 v2 => [(0, ms E_iiiiiiAi L0), (3, vs 0 0 v1.length v1.length), (4, vi (v2 : Int))]
noncomputable def ZmU (L0 : List R_iiiiiiAi) : Zaa → List (Option AObj)
 | .h1m0 => []
 | .h1m1 v1 v2 => [some (.cells (Zd E_iiiiiiAi v1) 31)]

noncomputable def Zc4 : Nat → Code × List Zaw
 | 1 => ZaP [1, 1, 0, 1, 3] (Zb9 Tryz.f4) []
 | _ => (.skip, [])
def ZhU : Nat → Bool
 | 1 => true
 | _ => true
noncomputable def ZiQ (i : Nat) : List Zaw := match ZhU i with | true => .rnd i :: (Zc4 i).2 | false => (Zc4 i).2

noncomputable def ZaJ (L0 : List R_iiiiiiAi) (N : Nat) : Mach := ⟨Tryz.f4, [], Zaa, Za0, ZaV L0 N, ZlH, Zc4, ZhU, ZmT L0, ZmU L0, ZiP L0, ZhT L0⟩

theorem ZiR (L0 : List R_iiiiiiAi) (N : Nat) : (ZaJ L0 N).Ok Tryz.prog Zx (.h1m0 : Zaa) (ZaV L0 N (.h1m0 : Zaa)) := by
 show (ZaJ L0 N).Ok Tryz.prog Zx (.h1m0 : Zaa) (Zbv L0 N)
 unfold Zbv
 refine Mach.ok_ite (fun g0 => ?_) (fun g0 => ?_)
 ·
  exact Mach.ok_next (M := ZaJ L0 N) (cd := 1000000) (cm := 0) (y := (.h1m1 (([(⟨(L0.getD 0 R_iiiiiiAi.z).a0, (L0.getD 0 R_iiiiiiAi.z).a1, (L0.getD 0 R_iiiiiiAi.z).a2, (L0.getD 0 R_iiiiiiAi.z).a3, (L0.getD 0 R_iiiiiiAi.z).a4, (L0.getD 0 R_iiiiiiAi.z).a5, ((L0.getD 0 R_iiiiiiAi.z).a6.take ((if (20 : Int) < (((L0.getD 0 R_iiiiiiAi.z).a6.length : Nat) : Int) then (20 : Int) else (((L0.getD 0 R_iiiiiiAi.z).a6.length : Nat) : Int))).toNat), (L0.getD 0 R_iiiiiiAi.z).a7⟩ : R_iiiiiiAi)] : List R_iiiiiiAi)) (1) : Zaa)) (fu := 4000) (orc := (Zm [(0, true)] [] [(0, 0)] [(0, [.i (L0.getD 0 R_iiiiiiAi.z).a0, .i (L0.getD 0 R_iiiiiiAi.z).a1, .i (L0.getD 0 R_iiiiiiAi.z).a2, .i (L0.getD 0 R_iiiiiiAi.z).a3, .i (L0.getD 0 R_iiiiiiAi.z).a4, .i (L0.getD 0 R_iiiiiiAi.z).a5, (mc E_ii (L0.getD 0 R_iiiiiiAi.z).a6), .i (L0.getD 0 R_iiiiiiAi.z).a7])] [(1, .ms 0 ((if (20 : Int) < (((L0.getD 0 R_iiiiiiAi.z).a6.length : Nat) : Int) then (20 : Int) else (((L0.getD 0 R_iiiiiiAi.z).a6.length : Nat) : Int))).toNat ((L0.getD 0 R_iiiiiiAi.z).a6.take ((if (20 : Int) < (((L0.getD 0 R_iiiiiiAi.z).a6.length : Nat) : Int) then (20 : Int) else (((L0.getD 0 R_iiiiiiAi.z).a6.length : Nat) : Int))).toNat).length (Z6 E_ii ((L0.getD 0 R_iiiiiiAi.z).a6.take ((if (20 : Int) < (((L0.getD 0 R_iiiiiiAi.z).a6.length : Nat) : Int) then (20 : Int) else (((L0.getD 0 R_iiiiiiAi.z).a6.length : Nat) : Int))).toNat)))])) (live := [2]) (tv := fun _ => [some (ms E_iiiiiiAi L0), some (vs 2 0 1 1), some (vi (1 : Int))]) (bl := [some (.cells [vi (L0.getD 0 R_iiiiiiAi.z).a0, vi (L0.getD 0 R_iiiiiiAi.z).a1, vi (L0.getD 0 R_iiiiiiAi.z).a2, vi (L0.getD 0 R_iiiiiiAi.z).a3, vi (L0.getD 0 R_iiiiiiAi.z).a4, vi (L0.getD 0 R_iiiiiiAi.z).a5, ms E_ii ((L0.getD 0 R_iiiiiiAi.z).a6.take ((if (20 : Int) < (((L0.getD 0 R_iiiiiiAi.z).a6.length : Nat) : Int) then (20 : Int) else (((L0.getD 0 R_iiiiiiAi.z).a6.length : Nat) : Int))).toNat), vi (L0.getD 0 R_iiiiiiAi.z).a7] 31)]) (ob := [(dP (0 ≤ ((if (20 : Int) < (((L0.getD 0 R_iiiiiiAi.z).a6.length : Nat) : Int) then (20 : Int) else (((L0.getD 0 R_iiiiiiAi.z).a6.length : Nat) : Int))).toNat ∧ ((if (20 : Int) < (((L0.getD 0 R_iiiiiiAi.z).a6.length : Nat) : Int) then (20 : Int) else (((L0.getD 0 R_iiiiiiAi.z).a6.length : Nat) : Int))).toNat ≤ (L0.getD 0 R_iiiiiiAi.z).a6.length ∧ ZV (code (Z6 E_ii (L0.getD 0 R_iiiiiiAi.z).a6)) (0 + 0 * 2) (Z6 E_ii ((L0.getD 0 R_iiiiiiAi.z).a6.take ((if (20 : Int) < (((L0.getD 0 R_iiiiiiAi.z).a6.length : Nat) : Int) then (20 : Int) else (((L0.getD 0 R_iiiiiiAi.z).a6.length : Nat) : Int))).toNat)).length = some (Z6 E_ii ((L0.getD 0 R_iiiiiiAi.z).a6.take ((if (20 : Int) < (((L0.getD 0 R_iiiiiiAi.z).a6.length : Nat) : Int) then (20 : Int) else (((L0.getD 0 R_iiiiiiAi.z).a6.length : Nat) : Int))).toNat)) ∧ (((if (20 : Int) < (((L0.getD 0 R_iiiiiiAi.z).a6.length : Nat) : Int) then (20 : Int) else (((L0.getD 0 R_iiiiiiAi.z).a6.length : Nat) : Int))).toNat - 0) * 2 = (Z6 E_ii ((L0.getD 0 R_iiiiiiAi.z).a6.take ((if (20 : Int) < (((L0.getD 0 R_iiiiiiAi.z).a6.length : Nat) : Int) then (20 : Int) else (((L0.getD 0 R_iiiiiiAi.z).a6.length : Nat) : Int))).toNat)).length ∧ ((L0.getD 0 R_iiiiiiAi.z).a6.take ((if (20 : Int) < (((L0.getD 0 R_iiiiiiAi.z).a6.length : Nat) : Int) then (20 : Int) else (((L0.getD 0 R_iiiiiiAi.z).a6.length : Nat) : Int))).toNat).length = ((if (20 : Int) < (((L0.getD 0 R_iiiiiiAi.z).a6.length : Nat) : Int) then (20 : Int) else (((L0.getD 0 R_iiiiiiAi.z).a6.length : Nat) : Int))).toNat - 0), true), ((if (20 : Int) < (((L0.getD 0 R_iiiiiiAi.z).a6.length : Nat) : Int) then (20 : Int) else (((L0.getD 0 R_iiiiiiAi.z).a6.length : Nat) : Int)) == Int.ofNat ((if (20 : Int) < (((L0.getD 0 R_iiiiiiAi.z).a6.length : Nat) : Int) then (20 : Int) else (((L0.getD 0 R_iiiiiiAi.z).a6.length : Nat) : Int))).toNat, true), (dS 0, true), (dP (ZV (code (Z6 E_iiiiiiAi L0)) (0 + (0 * 8)) 8 = some [.i (L0.getD 0 R_iiiiiiAi.z).a0, .i (L0.getD 0 R_iiiiiiAi.z).a1, .i (L0.getD 0 R_iiiiiiAi.z).a2, .i (L0.getD 0 R_iiiiiiAi.z).a3, .i (L0.getD 0 R_iiiiiiAi.z).a4, .i (L0.getD 0 R_iiiiiiAi.z).a5, (mc E_ii (L0.getD 0 R_iiiiiiAi.z).a6), .i (L0.getD 0 R_iiiiiiAi.z).a7]), true), (Nat.blt 0 L0.length, true), ((0 : Int) == Int.ofNat 0, true), ((decide ((0 : Int) < (L0.length : Int))), true)]) rfl (show 1 ∈ Zl (ZiQ 1) from by decide +kernel) (fun gv => by kernel_rfl) (Zb (Zw (Zkn (E := E_ii) (L := (L0.getD 0 R_iiiiiiAi.z).a6) (R := ((L0.getD 0 R_iiiiiiAi.z).a6.take ((if (20 : Int) < (((L0.getD 0 R_iiiiiiAi.z).a6.length : Nat) : Int) then (20 : Int) else (((L0.getD 0 R_iiiiiiAi.z).a6.length : Nat) : Int))).toNat)) (l := 0) (h := ((if (20 : Int) < (((L0.getD 0 R_iiiiiiAi.z).a6.length : Nat) : Int) then (20 : Int) else (((L0.getD 0 R_iiiiiiAi.z).a6.length : Nat) : Int))).toNat) (size := 2) ltA ltA (by decide) (by simp))) <| oI <| oR <| Zb (Zw (ZJ (E := E_iiiiiiAi) (L := L0) (i := 0) (q := 0) (by omega) (show (0 + (0 * 8)) = 0 * 8 + 0 from by omega) (show 0 + 8 ≤ 8 from by decide) rfl)) <| oB <| oI <| oY Zf) rfl (by decide) (by rfl) (fun _ => ⟨rr, ⟨⟨Eq.trans (show (vs 0 0 ([(⟨(L0.getD 0 R_iiiiiiAi.z).a0, (L0.getD 0 R_iiiiiiAi.z).a1, (L0.getD 0 R_iiiiiiAi.z).a2, (L0.getD 0 R_iiiiiiAi.z).a3, (L0.getD 0 R_iiiiiiAi.z).a4, (L0.getD 0 R_iiiiiiAi.z).a5, ((L0.getD 0 R_iiiiiiAi.z).a6.take ((if (20 : Int) < (((L0.getD 0 R_iiiiiiAi.z).a6.length : Nat) : Int) then (20 : Int) else (((L0.getD 0 R_iiiiiiAi.z).a6.length : Nat) : Int))).toNat), (L0.getD 0 R_iiiiiiAi.z).a7⟩ : R_iiiiiiAi)] : List R_iiiiiiAi).length ([(⟨(L0.getD 0 R_iiiiiiAi.z).a0, (L0.getD 0 R_iiiiiiAi.z).a1, (L0.getD 0 R_iiiiiiAi.z).a2, (L0.getD 0 R_iiiiiiAi.z).a3, (L0.getD 0 R_iiiiiiAi.z).a4, (L0.getD 0 R_iiiiiiAi.z).a5, ((L0.getD 0 R_iiiiiiAi.z).a6.take ((if (20 : Int) < (((L0.getD 0 R_iiiiiiAi.z).a6.length : Nat) : Int) then (20 : Int) else (((L0.getD 0 R_iiiiiiAi.z).a6.length : Nat) : Int))).toNat), (L0.getD 0 R_iiiiiiAi.z).a7⟩ : R_iiiiiiAi)] : List R_iiiiiiAi).length : Value) = vs 0 0 1 1 from (ZdF rfl eqA eqA)) (by rfl), by rfl⟩, ⟨⟨Eq.trans (show (vi ((1 : Nat) : Int) : Value) = vi (1 : Int) from (congrArg (Value.int .i64) (by first | rfl | omega))) (by rfl), by rfl⟩, trivial⟩⟩⟩) ⟨(ZiN (E := E_iiiiiiAi) _ (L := ([(⟨(L0.getD 0 R_iiiiiiAi.z).a0, (L0.getD 0 R_iiiiiiAi.z).a1, (L0.getD 0 R_iiiiiiAi.z).a2, (L0.getD 0 R_iiiiiiAi.z).a3, (L0.getD 0 R_iiiiiiAi.z).a4, (L0.getD 0 R_iiiiiiAi.z).a5, ((L0.getD 0 R_iiiiiiAi.z).a6.take ((if (20 : Int) < (((L0.getD 0 R_iiiiiiAi.z).a6.length : Nat) : Int) then (20 : Int) else (((L0.getD 0 R_iiiiiiAi.z).a6.length : Nat) : Int))).toNat), (L0.getD 0 R_iiiiiiAi.z).a7⟩ : R_iiiiiiAi)] : List R_iiiiiiAi)) _ (show ([vi (L0.getD 0 R_iiiiiiAi.z).a0, vi (L0.getD 0 R_iiiiiiAi.z).a1, vi (L0.getD 0 R_iiiiiiAi.z).a2, vi (L0.getD 0 R_iiiiiiAi.z).a3, vi (L0.getD 0 R_iiiiiiAi.z).a4, vi (L0.getD 0 R_iiiiiiAi.z).a5, ms E_ii ((L0.getD 0 R_iiiiiiAi.z).a6.take ((if (20 : Int) < (((L0.getD 0 R_iiiiiiAi.z).a6.length : Nat) : Int) then (20 : Int) else (((L0.getD 0 R_iiiiiiAi.z).a6.length : Nat) : Int))).toNat), vi (L0.getD 0 R_iiiiiiAi.z).a7] : List Value) = Zd E_iiiiiiAi ([(⟨(L0.getD 0 R_iiiiiiAi.z).a0, (L0.getD 0 R_iiiiiiAi.z).a1, (L0.getD 0 R_iiiiiiAi.z).a2, (L0.getD 0 R_iiiiiiAi.z).a3, (L0.getD 0 R_iiiiiiAi.z).a4, (L0.getD 0 R_iiiiiiAi.z).a5, ((L0.getD 0 R_iiiiiiAi.z).a6.take ((if (20 : Int) < (((L0.getD 0 R_iiiiiiAi.z).a6.length : Nat) : Int) then (20 : Int) else (((L0.getD 0 R_iiiiiiAi.z).a6.length : Nat) : Int))).toNat), (L0.getD 0 R_iiiiiiAi.z).a7⟩ : R_iiiiiiAi)] : List R_iiiiiiAi) from rfl)), trivial⟩
 ·
  exact Mach.ok_fin (M := ZaJ L0 N) (cd := 1000000) (cm := 0) (r := (.r0 : Za0)) (fu := 4000) (orc := (Zm [(0, false)] [] [] [] [])) (live := []) (u := vn) (bl := []) (ob := [((decide ((0 : Int) < (L0.length : Int))), false)]) (fun gv => by kernel_rfl) (oN Zf) rfl (by decide) (by rfl) rr trivial

theorem ZiS (L0 v1 : List R_iiiiiiAi) (v2 N : Nat) : (ZaJ L0 N).Ok Tryz.prog Zx (.h1m1 v1 v2 : Zaa) (ZaV L0 N (.h1m1 v1 v2 : Zaa)) := by
 show (ZaJ L0 N).Ok Tryz.prog Zx (.h1m1 v1 v2 : Zaa) (ZaI L0 N v1 v2)
 unfold ZaI
 refine Mach.ok_ite (fun g0 => ?_) (fun g0 => ?_)
 ·
  refine Mach.ok_ite (fun g1 => ?_) (fun g1 => ?_)
  ·
   refine Mach.ok_ite (fun g2 => ?_) (fun g2 => ?_)
   ·
    exact Mach.ok_next (M := ZaJ L0 N) (cd := 1000000) (cm := 0) (y := (.h1m1 ((v1 ++ ([(⟨(L0.getD v2 R_iiiiiiAi.z).a0, (L0.getD v2 R_iiiiiiAi.z).a1, (L0.getD v2 R_iiiiiiAi.z).a2, (L0.getD v2 R_iiiiiiAi.z).a3, (L0.getD v2 R_iiiiiiAi.z).a4, (L0.getD v2 R_iiiiiiAi.z).a5, ((L0.getD v2 R_iiiiiiAi.z).a6.take ((if (20 : Int) < (((L0.getD v2 R_iiiiiiAi.z).a6.length : Nat) : Int) then (20 : Int) else (((L0.getD v2 R_iiiiiiAi.z).a6.length : Nat) : Int))).toNat), (L0.getD v2 R_iiiiiiAi.z).a7⟩ : R_iiiiiiAi)] : List R_iiiiiiAi))) ((v2 + 1)) : Zaa)) (fu := 4000) (orc := (Zm [(0, true), (1, true)] [(0, (((v2 + 1) : Nat) : Int))] [(0, v2)] [(0, [.i (L0.getD v2 R_iiiiiiAi.z).a0, .i (L0.getD v2 R_iiiiiiAi.z).a1, .i (L0.getD v2 R_iiiiiiAi.z).a2, .i (L0.getD v2 R_iiiiiiAi.z).a3, .i (L0.getD v2 R_iiiiiiAi.z).a4, .i (L0.getD v2 R_iiiiiiAi.z).a5, (mc E_ii (L0.getD v2 R_iiiiiiAi.z).a6), .i (L0.getD v2 R_iiiiiiAi.z).a7])] [(1, .ms 0 ((if (20 : Int) < (((L0.getD v2 R_iiiiiiAi.z).a6.length : Nat) : Int) then (20 : Int) else (((L0.getD v2 R_iiiiiiAi.z).a6.length : Nat) : Int))).toNat ((L0.getD v2 R_iiiiiiAi.z).a6.take ((if (20 : Int) < (((L0.getD v2 R_iiiiiiAi.z).a6.length : Nat) : Int) then (20 : Int) else (((L0.getD v2 R_iiiiiiAi.z).a6.length : Nat) : Int))).toNat).length (Z6 E_ii ((L0.getD v2 R_iiiiiiAi.z).a6.take ((if (20 : Int) < (((L0.getD v2 R_iiiiiiAi.z).a6.length : Nat) : Int) then (20 : Int) else (((L0.getD v2 R_iiiiiiAi.z).a6.length : Nat) : Int))).toNat))), (3, .ap 1 [vi (L0.getD v2 R_iiiiiiAi.z).a0, vi (L0.getD v2 R_iiiiiiAi.z).a1, vi (L0.getD v2 R_iiiiiiAi.z).a2, vi (L0.getD v2 R_iiiiiiAi.z).a3, vi (L0.getD v2 R_iiiiiiAi.z).a4, vi (L0.getD v2 R_iiiiiiAi.z).a5, ms E_ii ((L0.getD v2 R_iiiiiiAi.z).a6.take ((if (20 : Int) < (((L0.getD v2 R_iiiiiiAi.z).a6.length : Nat) : Int) then (20 : Int) else (((L0.getD v2 R_iiiiiiAi.z).a6.length : Nat) : Int))).toNat), vi (L0.getD v2 R_iiiiiiAi.z).a7] (Zd E_iiiiiiAi (v1 ++ ([(⟨(L0.getD v2 R_iiiiiiAi.z).a0, (L0.getD v2 R_iiiiiiAi.z).a1, (L0.getD v2 R_iiiiiiAi.z).a2, (L0.getD v2 R_iiiiiiAi.z).a3, (L0.getD v2 R_iiiiiiAi.z).a4, (L0.getD v2 R_iiiiiiAi.z).a5, ((L0.getD v2 R_iiiiiiAi.z).a6.take ((if (20 : Int) < (((L0.getD v2 R_iiiiiiAi.z).a6.length : Nat) : Int) then (20 : Int) else (((L0.getD v2 R_iiiiiiAi.z).a6.length : Nat) : Int))).toNat), (L0.getD v2 R_iiiiiiAi.z).a7⟩ : R_iiiiiiAi)] : List R_iiiiiiAi))))])) (live := [3]) (tv := fun _ => [some (ms E_iiiiiiAi L0), some (vs 3 0 (v1.length + 1) (v1.length + 1)), some (vi (((v2 + 1) : Nat) : Int))]) (bl := [some (.cells (Zd E_iiiiiiAi (v1 ++ ([(⟨(L0.getD v2 R_iiiiiiAi.z).a0, (L0.getD v2 R_iiiiiiAi.z).a1, (L0.getD v2 R_iiiiiiAi.z).a2, (L0.getD v2 R_iiiiiiAi.z).a3, (L0.getD v2 R_iiiiiiAi.z).a4, (L0.getD v2 R_iiiiiiAi.z).a5, ((L0.getD v2 R_iiiiiiAi.z).a6.take ((if (20 : Int) < (((L0.getD v2 R_iiiiiiAi.z).a6.length : Nat) : Int) then (20 : Int) else (((L0.getD v2 R_iiiiiiAi.z).a6.length : Nat) : Int))).toNat), (L0.getD v2 R_iiiiiiAi.z).a7⟩ : R_iiiiiiAi)] : List R_iiiiiiAi))) 31)]) (ob := [((IntKind.i64.wrap ((v2 : Int) + (1 : Int))) == (((v2 + 1) : Nat) : Int), true), (dP ((1 = 1 ∧ Zv (1 * 8) (List.drop 0 [vi (L0.getD v2 R_iiiiiiAi.z).a0, vi (L0.getD v2 R_iiiiiiAi.z).a1, vi (L0.getD v2 R_iiiiiiAi.z).a2, vi (L0.getD v2 R_iiiiiiAi.z).a3, vi (L0.getD v2 R_iiiiiiAi.z).a4, vi (L0.getD v2 R_iiiiiiAi.z).a5, ms E_ii ((L0.getD v2 R_iiiiiiAi.z).a6.take ((if (20 : Int) < (((L0.getD v2 R_iiiiiiAi.z).a6.length : Nat) : Int) then (20 : Int) else (((L0.getD v2 R_iiiiiiAi.z).a6.length : Nat) : Int))).toNat), vi (L0.getD v2 R_iiiiiiAi.z).a7]) = some [vi (L0.getD v2 R_iiiiiiAi.z).a0, vi (L0.getD v2 R_iiiiiiAi.z).a1, vi (L0.getD v2 R_iiiiiiAi.z).a2, vi (L0.getD v2 R_iiiiiiAi.z).a3, vi (L0.getD v2 R_iiiiiiAi.z).a4, vi (L0.getD v2 R_iiiiiiAi.z).a5, ms E_ii ((L0.getD v2 R_iiiiiiAi.z).a6.take ((if (20 : Int) < (((L0.getD v2 R_iiiiiiAi.z).a6.length : Nat) : Int) then (20 : Int) else (((L0.getD v2 R_iiiiiiAi.z).a6.length : Nat) : Int))).toNat), vi (L0.getD v2 R_iiiiiiAi.z).a7] ∧ Zu Zb3 [vi (L0.getD v2 R_iiiiiiAi.z).a0, vi (L0.getD v2 R_iiiiiiAi.z).a1, vi (L0.getD v2 R_iiiiiiAi.z).a2, vi (L0.getD v2 R_iiiiiiAi.z).a3, vi (L0.getD v2 R_iiiiiiAi.z).a4, vi (L0.getD v2 R_iiiiiiAi.z).a5, ms E_ii ((L0.getD v2 R_iiiiiiAi.z).a6.take ((if (20 : Int) < (((L0.getD v2 R_iiiiiiAi.z).a6.length : Nat) : Int) then (20 : Int) else (((L0.getD v2 R_iiiiiiAi.z).a6.length : Nat) : Int))).toNat), vi (L0.getD v2 R_iiiiiiAi.z).a7] = true) ∧ 0 < 1 ∧ 1 ≤ 100000 ∧ v1.length < v1.length + 1 ∧ v1.length ≤ 100000 ∧ v1.length * 8 ≤ (List.length (Zd E_iiiiiiAi v1)) ∧ List.take (v1.length * 8) (Zd E_iiiiiiAi v1) ++ [vi (L0.getD v2 R_iiiiiiAi.z).a0, vi (L0.getD v2 R_iiiiiiAi.z).a1, vi (L0.getD v2 R_iiiiiiAi.z).a2, vi (L0.getD v2 R_iiiiiiAi.z).a3, vi (L0.getD v2 R_iiiiiiAi.z).a4, vi (L0.getD v2 R_iiiiiiAi.z).a5, ms E_ii ((L0.getD v2 R_iiiiiiAi.z).a6.take ((if (20 : Int) < (((L0.getD v2 R_iiiiiiAi.z).a6.length : Nat) : Int) then (20 : Int) else (((L0.getD v2 R_iiiiiiAi.z).a6.length : Nat) : Int))).toNat), vi (L0.getD v2 R_iiiiiiAi.z).a7] = (Zd E_iiiiiiAi (v1 ++ ([(⟨(L0.getD v2 R_iiiiiiAi.z).a0, (L0.getD v2 R_iiiiiiAi.z).a1, (L0.getD v2 R_iiiiiiAi.z).a2, (L0.getD v2 R_iiiiiiAi.z).a3, (L0.getD v2 R_iiiiiiAi.z).a4, (L0.getD v2 R_iiiiiiAi.z).a5, ((L0.getD v2 R_iiiiiiAi.z).a6.take ((if (20 : Int) < (((L0.getD v2 R_iiiiiiAi.z).a6.length : Nat) : Int) then (20 : Int) else (((L0.getD v2 R_iiiiiiAi.z).a6.length : Nat) : Int))).toNat), (L0.getD v2 R_iiiiiiAi.z).a7⟩ : R_iiiiiiAi)] : List R_iiiiiiAi)))), true), (dP (0 ≤ ((if (20 : Int) < (((L0.getD v2 R_iiiiiiAi.z).a6.length : Nat) : Int) then (20 : Int) else (((L0.getD v2 R_iiiiiiAi.z).a6.length : Nat) : Int))).toNat ∧ ((if (20 : Int) < (((L0.getD v2 R_iiiiiiAi.z).a6.length : Nat) : Int) then (20 : Int) else (((L0.getD v2 R_iiiiiiAi.z).a6.length : Nat) : Int))).toNat ≤ (L0.getD v2 R_iiiiiiAi.z).a6.length ∧ ZV (code (Z6 E_ii (L0.getD v2 R_iiiiiiAi.z).a6)) (0 + 0 * 2) (Z6 E_ii ((L0.getD v2 R_iiiiiiAi.z).a6.take ((if (20 : Int) < (((L0.getD v2 R_iiiiiiAi.z).a6.length : Nat) : Int) then (20 : Int) else (((L0.getD v2 R_iiiiiiAi.z).a6.length : Nat) : Int))).toNat)).length = some (Z6 E_ii ((L0.getD v2 R_iiiiiiAi.z).a6.take ((if (20 : Int) < (((L0.getD v2 R_iiiiiiAi.z).a6.length : Nat) : Int) then (20 : Int) else (((L0.getD v2 R_iiiiiiAi.z).a6.length : Nat) : Int))).toNat)) ∧ (((if (20 : Int) < (((L0.getD v2 R_iiiiiiAi.z).a6.length : Nat) : Int) then (20 : Int) else (((L0.getD v2 R_iiiiiiAi.z).a6.length : Nat) : Int))).toNat - 0) * 2 = (Z6 E_ii ((L0.getD v2 R_iiiiiiAi.z).a6.take ((if (20 : Int) < (((L0.getD v2 R_iiiiiiAi.z).a6.length : Nat) : Int) then (20 : Int) else (((L0.getD v2 R_iiiiiiAi.z).a6.length : Nat) : Int))).toNat)).length ∧ ((L0.getD v2 R_iiiiiiAi.z).a6.take ((if (20 : Int) < (((L0.getD v2 R_iiiiiiAi.z).a6.length : Nat) : Int) then (20 : Int) else (((L0.getD v2 R_iiiiiiAi.z).a6.length : Nat) : Int))).toNat).length = ((if (20 : Int) < (((L0.getD v2 R_iiiiiiAi.z).a6.length : Nat) : Int) then (20 : Int) else (((L0.getD v2 R_iiiiiiAi.z).a6.length : Nat) : Int))).toNat - 0), true), ((if (20 : Int) < (((L0.getD v2 R_iiiiiiAi.z).a6.length : Nat) : Int) then (20 : Int) else (((L0.getD v2 R_iiiiiiAi.z).a6.length : Nat) : Int)) == Int.ofNat ((if (20 : Int) < (((L0.getD v2 R_iiiiiiAi.z).a6.length : Nat) : Int) then (20 : Int) else (((L0.getD v2 R_iiiiiiAi.z).a6.length : Nat) : Int))).toNat, true), (dS 0, true), (dP (ZV (code (Z6 E_iiiiiiAi L0)) (0 + (v2 * 8)) 8 = some [.i (L0.getD v2 R_iiiiiiAi.z).a0, .i (L0.getD v2 R_iiiiiiAi.z).a1, .i (L0.getD v2 R_iiiiiiAi.z).a2, .i (L0.getD v2 R_iiiiiiAi.z).a3, .i (L0.getD v2 R_iiiiiiAi.z).a4, .i (L0.getD v2 R_iiiiiiAi.z).a5, (mc E_ii (L0.getD v2 R_iiiiiiAi.z).a6), .i (L0.getD v2 R_iiiiiiAi.z).a7]), true), (Nat.blt v2 L0.length, true), ((v2 : Int) == Int.ofNat v2, true), ((decide ((v2 : Int) < (30 : Int))), true), ((decide ((v2 : Int) < (L0.length : Int))), true)]) rfl (show 1 ∈ Zl (ZiQ 1) from by decide +kernel) (fun gv => by kernel_rfl) (Zb (beq_iff_eq.2 ((wrap_i64 ltA).trans (by first | rfl | omega))) <| Zb (Zw ⟨⟨rfl, ⟨rfl, rfl⟩⟩, by omega, by omega, ltA, by omega, (Zla (E := E_iiiiiiAi) (L := v1) (M := ([(⟨(L0.getD v2 R_iiiiiiAi.z).a0, (L0.getD v2 R_iiiiiiAi.z).a1, (L0.getD v2 R_iiiiiiAi.z).a2, (L0.getD v2 R_iiiiiiAi.z).a3, (L0.getD v2 R_iiiiiiAi.z).a4, (L0.getD v2 R_iiiiiiAi.z).a5, ((L0.getD v2 R_iiiiiiAi.z).a6.take ((if (20 : Int) < (((L0.getD v2 R_iiiiiiAi.z).a6.length : Nat) : Int) then (20 : Int) else (((L0.getD v2 R_iiiiiiAi.z).a6.length : Nat) : Int))).toNat), (L0.getD v2 R_iiiiiiAi.z).a7⟩ : R_iiiiiiAi)] : List R_iiiiiiAi)) (n := v1.length) (show _ = _ * 8 from rfl) (by omega) (R := (v1 ++ ([(⟨(L0.getD v2 R_iiiiiiAi.z).a0, (L0.getD v2 R_iiiiiiAi.z).a1, (L0.getD v2 R_iiiiiiAi.z).a2, (L0.getD v2 R_iiiiiiAi.z).a3, (L0.getD v2 R_iiiiiiAi.z).a4, (L0.getD v2 R_iiiiiiAi.z).a5, ((L0.getD v2 R_iiiiiiAi.z).a6.take ((if (20 : Int) < (((L0.getD v2 R_iiiiiiAi.z).a6.length : Nat) : Int) then (20 : Int) else (((L0.getD v2 R_iiiiiiAi.z).a6.length : Nat) : Int))).toNat), (L0.getD v2 R_iiiiiiAi.z).a7⟩ : R_iiiiiiAi)] : List R_iiiiiiAi))) (by rw [List.take_of_length_le (by omega)]))⟩) <| Zb (Zw (Zkn (E := E_ii) (L := (L0.getD v2 R_iiiiiiAi.z).a6) (R := ((L0.getD v2 R_iiiiiiAi.z).a6.take ((if (20 : Int) < (((L0.getD v2 R_iiiiiiAi.z).a6.length : Nat) : Int) then (20 : Int) else (((L0.getD v2 R_iiiiiiAi.z).a6.length : Nat) : Int))).toNat)) (l := 0) (h := ((if (20 : Int) < (((L0.getD v2 R_iiiiiiAi.z).a6.length : Nat) : Int) then (20 : Int) else (((L0.getD v2 R_iiiiiiAi.z).a6.length : Nat) : Int))).toNat) (size := 2) ltA ltA (by decide) (by simp))) <| oI <| oR <| Zb (Zw (ZJ (E := E_iiiiiiAi) (L := L0) (i := v2) (q := 0) (by omega) (show (0 + (v2 * 8)) = v2 * 8 + 0 from by omega) (show 0 + 8 ≤ 8 from by decide) rfl)) <| oB <| oI <| oY <| oY Zf) rfl (by decide) (by rfl) (fun _ => ⟨rr, ⟨⟨Eq.trans (show (vs 0 0 (v1 ++ ([(⟨(L0.getD v2 R_iiiiiiAi.z).a0, (L0.getD v2 R_iiiiiiAi.z).a1, (L0.getD v2 R_iiiiiiAi.z).a2, (L0.getD v2 R_iiiiiiAi.z).a3, (L0.getD v2 R_iiiiiiAi.z).a4, (L0.getD v2 R_iiiiiiAi.z).a5, ((L0.getD v2 R_iiiiiiAi.z).a6.take ((if (20 : Int) < (((L0.getD v2 R_iiiiiiAi.z).a6.length : Nat) : Int) then (20 : Int) else (((L0.getD v2 R_iiiiiiAi.z).a6.length : Nat) : Int))).toNat), (L0.getD v2 R_iiiiiiAi.z).a7⟩ : R_iiiiiiAi)] : List R_iiiiiiAi)).length (v1 ++ ([(⟨(L0.getD v2 R_iiiiiiAi.z).a0, (L0.getD v2 R_iiiiiiAi.z).a1, (L0.getD v2 R_iiiiiiAi.z).a2, (L0.getD v2 R_iiiiiiAi.z).a3, (L0.getD v2 R_iiiiiiAi.z).a4, (L0.getD v2 R_iiiiiiAi.z).a5, ((L0.getD v2 R_iiiiiiAi.z).a6.take ((if (20 : Int) < (((L0.getD v2 R_iiiiiiAi.z).a6.length : Nat) : Int) then (20 : Int) else (((L0.getD v2 R_iiiiiiAi.z).a6.length : Nat) : Int))).toNat), (L0.getD v2 R_iiiiiiAi.z).a7⟩ : R_iiiiiiAi)] : List R_iiiiiiAi)).length : Value) = vs 0 0 (v1.length + 1) (v1.length + 1) from (ZdF rfl eqA eqA)) (by rfl), by rfl⟩, ⟨rr, trivial⟩⟩⟩) ⟨(Zh (E := E_iiiiiiAi) (α := R_iiiiiiAi) _ (v1 ++ ([(⟨(L0.getD v2 R_iiiiiiAi.z).a0, (L0.getD v2 R_iiiiiiAi.z).a1, (L0.getD v2 R_iiiiiiAi.z).a2, (L0.getD v2 R_iiiiiiAi.z).a3, (L0.getD v2 R_iiiiiiAi.z).a4, (L0.getD v2 R_iiiiiiAi.z).a5, ((L0.getD v2 R_iiiiiiAi.z).a6.take ((if (20 : Int) < (((L0.getD v2 R_iiiiiiAi.z).a6.length : Nat) : Int) then (20 : Int) else (((L0.getD v2 R_iiiiiiAi.z).a6.length : Nat) : Int))).toNat), (L0.getD v2 R_iiiiiiAi.z).a7⟩ : R_iiiiiiAi)] : List R_iiiiiiAi)) _), trivial⟩
   ·
    exact Mach.ok_none
  ·
   exact Mach.ok_fin (M := ZaJ L0 N) (cd := 1000000) (cm := 0) (r := (.r1 (v1) : Za0)) (fu := 4000) (orc := (Zm [(0, true), (1, false)] [] [] [] [])) (live := [0]) (u := vs 0 0 v1.length v1.length) (bl := [some (.cells (Zd E_iiiiiiAi v1) 31)]) (ob := [((decide ((v2 : Int) < (30 : Int))), false), ((decide ((v2 : Int) < (L0.length : Int))), true)]) (fun gv => by kernel_rfl) (oN <| oY Zf) rfl (by decide) (by rfl) rr ⟨(Zh (E := E_iiiiiiAi) (α := R_iiiiiiAi) _ v1 _), trivial⟩
 ·
  exact Mach.ok_fin (M := ZaJ L0 N) (cd := 1000000) (cm := 0) (r := (.r1 (v1) : Za0)) (fu := 4000) (orc := (Zm [(0, false)] [] [] [] [])) (live := [0]) (u := vs 0 0 v1.length v1.length) (bl := [some (.cells (Zd E_iiiiiiAi v1) 31)]) (ob := [((decide ((v2 : Int) < (L0.length : Int))), false)]) (fun gv => by kernel_rfl) (oN Zf) rfl (by decide) (by rfl) rr ⟨(Zh (E := E_iiiiiiAi) (α := R_iiiiiiAi) _ v1 _), trivial⟩

theorem Zlj (L0 : List R_iiiiiiAi) (N : Nat) : (ZaJ L0 N).Enter Tryz.prog Zx #[ms E_iiiiiiAi L0] (Zfr L0 N) := by
 unfold Zfr
 exact Mach.en_head (bK := Zc4 1) (M := ZaJ L0 N) (cd := 1000000) (cm := 0) (y := (.h1m0 : Zaa)) (fu := 4000) (orc := (Zm [] [] [] [] [])) (live := []) (tv := [some (ms E_iiiiiiAi L0), some (vn), some (vq)]) (bl := []) (ob := []) rfl rfl (show Zl (Zc4 1).2 = [] from rfl) (by kernel_rfl) Zf rfl (by decide) (by rfl) ⟨rr, ⟨rr, ⟨rr, trivial⟩⟩⟩ trivial

theorem ZfF (L0 : List R_iiiiiiAi) (N : Nat) (r : Za0) (h : Zds L0 N = some r) : LSpec Tryz.prog 4 #[ms E_iiiiiiAi L0] [] (ZiP L0 r) (ZhT L0 r) :=
 Mach.spec ZcN (ZaJ L0 N) Tryz.func4 (by kernel_rfl) (by kernel_rfl) (fun x => by cases x <;> exact ZaQ _ rfl) (fun r => by cases r <;> exact ZaQ _ rfl) (fun x => by
  cases x with
  | h1m0 => exact fun _ => (show ¬ (1 ∈ Zl (Zc4 1).2) from by decide +kernel)
  | h1m1 _ _ => exact fun _ => (show ¬ (1 ∈ Zl (Zc4 1).2) from by decide +kernel)
  ) (fun x => (show (ZaJ L0 N).Ok Tryz.prog Zx x (ZaV L0 N x) from by
  cases x with
  | h1m0 => exact ZiR L0 N
  | h1m1 v1 v2 => exact ZiS L0 v1 v2 N
  )) (Zlj L0 N) (n := N) h

noncomputable def ZlI (L0 : List R_iiiiiiAi) (n : Nat) : Zcn := .call [] (vn) [] 0
def ZhV (A : Array Value) (L0 : List R_iiiiiiAi) (n : Nat) : Prop := Zam Tryz.prog 4 A [] (vn) [] n 0

theorem ZlJ (A : Array Value) (L0 : List R_iiiiiiAi) (N : Nat) (h : Zds L0 N = some (.r0)) (n : Nat) (hA : A = #[ms E_iiiiiiAi L0]) (hnd : ([] : List Nat).Nodup) (hlt : ∀ k ∈ ([] : List Nat), k < n) : ZhV A L0  n :=
 Zb5 hA (LSpec.callL (show LSpec Tryz.prog 4 #[ms E_iiiiiiAi L0] [] (vn) [] from ZfF L0 N _ h) [] n [] rfl hnd hlt (show 0 ≤ 0 from by decide) (show ∀ j ∈ ([] : List Nat), j < 0 from by decide) (by rfl) trivial (by rfl) trivial trivial rfl rfl rfl rfl rfl)

noncomputable def ZlK (L0 w0 : List R_iiiiiiAi) (n : Nat) : Zcn := .call [] (vs n 0 w0.length w0.length) [(n, some (.cells (Zd E_iiiiiiAi w0) 31))] 1
def ZhW (A : Array Value) (L0 w0 : List R_iiiiiiAi) (n : Nat) : Prop := Zam Tryz.prog 4 A [] (vs n 0 w0.length w0.length) [(n, some (.cells (Zd E_iiiiiiAi w0) 31))] n 1

theorem ZlL (A : Array Value) (L0 w0 : List R_iiiiiiAi) (N : Nat) (h : Zds L0 N = some (.r1 w0)) (n : Nat) (hA : A = #[ms E_iiiiiiAi L0]) (hnd : ([] : List Nat).Nodup) (hlt : ∀ k ∈ ([] : List Nat), k < n) : ZhW A L0 w0  n :=
 Zb5 hA (LSpec.callL (show LSpec Tryz.prog 4 #[ms E_iiiiiiAi L0] [] (vs 0 0 w0.length w0.length) [some (.cells (Zd E_iiiiiiAi w0) 31)] from ZfF L0 N _ h) [] n [0] rfl hnd hlt (show 0 ≤ 1 from by decide) (show ∀ j ∈ ([0] : List Nat), j < 1 from by decide) (by rfl) trivial (by rfl) ⟨(Zbp _ _ _), trivial⟩ ⟨(by decide), trivial⟩ rfl rfl rfl rfl (Zat (ZbT rfl (ZfD (ZcM _ _ _))) rfl))

noncomputable def Zcj  : ZM → Value
 | .r0 => vtt
noncomputable def Zci  : ZM → List (Option AObj)
 | .r0 => []

theorem ZbO  (N : Nat) (r : ZM) (h : Z8  N = some r) : LSpec Tryz.prog 16 #[vn, Value.func (.func 17) #[] #[]] [] (Zcj  r) (Zci  r) := by
 cases r
 exact Zoj Zmj

noncomputable def ZaS  (n : Nat) : Zcn := .call [] (vtt) [] 0
def Zar (A : Array Value)  (n : Nat) : Prop := Zam Tryz.prog 16 A [] (vtt) [] n 0

theorem ZaT (A : Array Value)  (N : Nat) (h : Z8  N = some (.r0)) (n : Nat) (hA : A = #[vn, Value.func (.func 17) #[] #[]]) (hnd : ([] : List Nat).Nodup) (hlt : ∀ k ∈ ([] : List Nat), k < n) : Zar A   n :=
 Zb5 hA (LSpec.callL (show LSpec Tryz.prog 16 #[vn, Value.func (.func 17) #[] #[]] [] (vtt) [] from ZbO  N _ h) [] n [] rfl hnd hlt (show 0 ≤ 0 from by decide) (show ∀ j ∈ ([] : List Nat), j < 0 from by decide) (by rfl) trivial (by rfl) trivial trivial rfl rfl rfl rfl rfl)

noncomputable def ZfG (L0 : List RB) : Za4 → Value
 | .r0 => vn
noncomputable def ZeY (L0 : List RB) : Za4 → List (Option AObj)
 | .r0 => []

def ZiT : Zaj → Nat
 | .h1m0 => 1
noncomputable def Zjr (L0 : List RB) : Zaj → List (Nat × Value)
 | .h1m0 => [(0, ms E_iiiiii L0), (5, vn), (10, vn), (11, vq), (12, vq)]
noncomputable def Zjs (L0 : List RB) : Zaj → List (Option AObj)
 | .h1m0 => []

noncomputable def ZcV : Nat → Code × List Zaw
 | 1 => ZaP [1, 1, 0, 1, 3] (Zb9 Tryz.f11) []
 | _ => (.skip, [])
def ZiU : Nat → Bool
 | 1 => true
 | _ => true
noncomputable def Zbw (L0 : List RB) (N : Nat) : Mach := ⟨Tryz.f11, [], Zaj, Za4, Zb7 L0 N, ZiT, ZcV, ZiU, Zjr L0, Zjs L0, ZfG L0, ZeY L0⟩

theorem Zg0 (L0 : List RB) (N : Nat) : (Zbw L0 N).Ok Tryz.prog Zx (.h1m0 : Zaj) (Zb7 L0 N (.h1m0 : Zaj)) := by
 show (Zbw L0 N).Ok Tryz.prog Zx (.h1m0 : Zaj) (Zbz L0 N)
 unfold Zbz
 refine Mach.ok_ite (fun g0 => ?_) (fun g0 => ?_)
 ·
  refine Mach.ok_bind (fun z1 c1 => ?_)
  cases z1 with
  | r0 =>
   exact Mach.ok_fin (M := Zbw L0 N) (cd := 1000000) (cm := 0) (r := (.r0 : Za4)) (fu := 4000) (orc := (Zm [] [] [] [] [(0, (ZaS     0))])) (live := []) (u := vn) (bl := []) (ob := [(dP (Zar #[vn, Value.func (.func 17) #[] #[]]     0), true)]) (fun gv => by kernel_rfl) (Zb (Zw (ZaT #[vn, Value.func (.func 17) #[] #[]]    N c1  0 rfl (by decide) (by decide))) Zf) rfl (by decide) (by rfl) rr trivial
 ·
  exact Mach.ok_none

theorem Zip (L0 : List RB) (N : Nat) : (Zbw L0 N).Enter Tryz.prog Zx #[ms E_iiiiii L0, vn] (Zd2 L0 N) := by
 unfold Zd2
 exact Mach.en_head (bK := ZcV 1) (M := Zbw L0 N) (cd := 1000000) (cm := 0) (y := (.h1m0 : Zaj)) (fu := 4000) (orc := (Zm [] [] [] [] [])) (live := []) (tv := [some (ms E_iiiiii L0), some (vn), some (vn), some (vq), some (vq)]) (bl := []) (ob := []) rfl rfl (show Zl (ZcV 1).2 = [] from rfl) (by kernel_rfl) Zf rfl (by decide) (by rfl) ⟨rr, ⟨rr, ⟨rr, ⟨rr, ⟨rr, trivial⟩⟩⟩⟩⟩ trivial

theorem Zhf (L0 : List RB) (N : Nat) (r : Za4) (h : Zdg L0 N = some r) : LSpec Tryz.prog 11 #[ms E_iiiiii L0, vn] [] (ZfG L0 r) (ZeY L0 r) :=
 Mach.spec ZcN (Zbw L0 N) Tryz.func11 (by kernel_rfl) (by kernel_rfl) (fun x => by cases x <;> exact ZaQ _ rfl) (fun r => by cases r <;> exact ZaQ _ rfl) (fun x => by
  cases x with
  | h1m0 => exact fun _ => (show ¬ (1 ∈ Zl (ZcV 1).2) from by decide +kernel)
  ) (fun x => (show (Zbw L0 N).Ok Tryz.prog Zx x (Zb7 L0 N x) from by
  cases x with
  | h1m0 => exact Zg0 L0 N
  )) (Zip L0 N) (n := N) h

noncomputable def ZiV (L0 : List RB) (n : Nat) : Zcn := .call [] (vn) [] 0
def ZeZ (A : Array Value) (L0 : List RB) (n : Nat) : Prop := Zam Tryz.prog 11 A [] (vn) [] n 0

theorem ZiW (A : Array Value) (L0 : List RB) (N : Nat) (h : Zdg L0 N = some (.r0)) (n : Nat) (hA : A = #[ms E_iiiiii L0, vn]) (hnd : ([] : List Nat).Nodup) (hlt : ∀ k ∈ ([] : List Nat), k < n) : ZeZ A L0  n :=
 Zb5 hA (LSpec.callL (show LSpec Tryz.prog 11 #[ms E_iiiiii L0, vn] [] (vn) [] from Zhf L0 N _ h) [] n [] rfl hnd hlt (show 0 ≤ 0 from by decide) (show ∀ j ∈ ([] : List Nat), j < 0 from by decide) (by rfl) trivial (by rfl) trivial trivial rfl rfl rfl rfl rfl)

noncomputable def Zhg (L0 : List RB) : ZaC → Value
 | .r0 => vq
noncomputable def Zgv (L0 : List RB) : ZaC → List (Option AObj)
 | .r0 => []

def ZjW : Z3 → Nat
 | .h1m0 v2 => 1
 | .h2m0 v0 v3 v10 v11 v12 v13 v14 v15 => 2
noncomputable def Zlk (L0 : List RB) : Z3 → List (Nat × Value)
 | .h1m0 v2 => [(5, vn), (6, vp 0 0), (7, vp 1 0), (8, Value.func (.func 12) #[] #[vp 0 0, vp 1 0]), (16, ms E_iiiiii L0), (17, vi (L0.length : Int)), (18, vi (v2 : Int))]
 | .h2m0 v0 v3 v10 v11 v12 v13 v14 v15 => [(5, vn), (6, vp 0 0), (7, vp 1 0), (8, Value.func (.func 12) #[] #[vp 0 0, vp 1 0]), (9, vi (v0 : Int)), (10, vp 2 0), (16, ms E_iiiiii L0), (17, vi (L0.length : Int)), (18, vi (v3 : Int))]
noncomputable def Zll (L0 : List RB) : Z3 → List (Option AObj)
 | .h1m0 v2 => [some (.cells [vq, vq, vq] 45), some (.cells [vq, vq, vq] 45)]
 | .h2m0 v0 v3 v10 v11 v12 v13 v14 v15 => [some (.cells [vq, vq, vq] 45), some (.cells [vq, vq, vq] 45), some (.cells [vi v10, vi v11, vi v12, vi v13, vi v14, vi v15] 41)]

noncomputable def Zbg : Nat → Code × List Zaw
 | 1 => ZaP [1, 2, 1, 1, 1, 1, 0, 1, 3] (Zb9 Tryz.f7) []
 | 2 => ZaP [1, 2, 1, 1, 1, 1, 0, 1, 3, 7, 1, 1, 0, 3, 1, 0, 3] (Zb9 Tryz.f7) []
 | _ => (.skip, [])
def Zgw : Nat → Bool
 | 1 => true
 | 2 => true
 | _ => true
noncomputable def Zb2 (i : Nat) : List Zaw := match Zgw i with | true => .rnd i :: (Zbg i).2 | false => (Zbg i).2

noncomputable def Zab (L0 : List RB) (N : Nat) : Mach := ⟨Tryz.f7, [], Z3, ZaC, ZaN L0 N, ZjW, Zbg, Zgw, Zlk L0, Zll L0, Zhg L0, Zgv L0⟩

theorem Zh8 (L0 : List RB) (v2 N : Nat) : (Zab L0 N).Ok Tryz.prog Zx (.h1m0 v2 : Z3) (ZaN L0 N (.h1m0 v2 : Z3)) := by
 show (Zab L0 N).Ok Tryz.prog Zx (.h1m0 v2 : Z3) (ZaW L0 N v2)
 unfold ZaW
 refine Mach.ok_ite (fun g0 => ?_) (fun g0 => ?_)
 ·
  refine Mach.ok_ite (fun g1 => ?_) (fun g1 => ?_)
  ·
   exact Mach.ok_head (bK := Zbg 2) (M := Zab L0 N) (cd := 1000000) (cm := 0) (y := (.h2m0 (v2) (v2) ((L0.getD v2 RB.z).a0) ((L0.getD v2 RB.z).a1) ((L0.getD v2 RB.z).a2) ((L0.getD v2 RB.z).a3) ((L0.getD v2 RB.z).a4) ((L0.getD v2 RB.z).a5) : Z3)) (fu := 4000) (orc := (Zm [(0, true)] [] [(0, v2)] [(0, [.i (L0.getD v2 RB.z).a0, .i (L0.getD v2 RB.z).a1, .i (L0.getD v2 RB.z).a2, .i (L0.getD v2 RB.z).a3, .i (L0.getD v2 RB.z).a4, .i (L0.getD v2 RB.z).a5])] [])) (live := [0, 1, 2]) (tv := fun _ => [some (vn), some (vp 0 0), some (vp 1 0), some (Value.func (.func 12) #[] #[vp 0 0, vp 1 0]), some (vi (v2 : Int)), some (vp 2 0), some (ms E_iiiiii L0), some (vi (L0.length : Int)), some (vi (v2 : Int))]) (bl := [some (.cells [vq, vq, vq] 45), some (.cells [vq, vq, vq] 45), some (.cells [vi (L0.getD v2 RB.z).a0, vi (L0.getD v2 RB.z).a1, vi (L0.getD v2 RB.z).a2, vi (L0.getD v2 RB.z).a3, vi (L0.getD v2 RB.z).a4, vi (L0.getD v2 RB.z).a5] 41)]) (ob := [(dP (ZV (code (Z6 E_iiiiii L0)) (0 + (v2 * 6)) 6 = some [.i (L0.getD v2 RB.z).a0, .i (L0.getD v2 RB.z).a1, .i (L0.getD v2 RB.z).a2, .i (L0.getD v2 RB.z).a3, .i (L0.getD v2 RB.z).a4, .i (L0.getD v2 RB.z).a5]), true), (Nat.blt v2 L0.length, true), ((v2 : Int) == Int.ofNat v2, true), ((decide ((v2 : Int) < (L0.length : Int))), true)]) rfl rfl (show ∀ j ∈ Zl (Zbg 2).2, j ∈ Zl (Zb2 1) from by decide +kernel) (fun gv => by kernel_rfl) (Zb (Zw (ZJ (E := E_iiiiii) (L := L0) (i := v2) (q := 0) (by omega) (show (0 + (v2 * 6)) = v2 * 6 + 0 from by omega) (show 0 + 6 ≤ 6 from by decide) rfl)) <| oB <| oI <| oY Zf) rfl (by decide) (by rfl) (fun _ => ⟨rr, ⟨rr, ⟨rr, ⟨rr, ⟨rr, ⟨rr, ⟨rr, ⟨rr, ⟨rr, trivial⟩⟩⟩⟩⟩⟩⟩⟩⟩) ⟨⟨rfl, ⟨[], by rfl⟩, by rfl⟩, ⟨⟨rfl, ⟨[], by rfl⟩, by rfl⟩, ⟨⟨rfl, ⟨[], by rfl⟩, by rfl⟩, trivial⟩⟩⟩
  ·
   exact Mach.ok_fin (M := Zab L0 N) (cd := 1000000) (cm := 0) (r := (.r0 : ZaC)) (fu := 4000) (orc := (Zm [(0, false)] [] [] [] [])) (live := []) (u := vq) (bl := []) (ob := [((decide ((v2 : Int) < (L0.length : Int))), false)]) (fun gv => by kernel_rfl) (oN Zf) rfl (by decide) (by rfl) rr trivial
 ·
  exact Mach.ok_none

theorem Zh9 (L0 : List RB) (v0 v3 : Nat) (v10 v11 v12 v13 v14 v15 : Int) (N : Nat) : (Zab L0 N).Ok Tryz.prog Zx (.h2m0 v0 v3 v10 v11 v12 v13 v14 v15 : Z3) (ZaN L0 N (.h2m0 v0 v3 v10 v11 v12 v13 v14 v15 : Z3)) := by
 show (Zab L0 N).Ok Tryz.prog Zx (.h2m0 v0 v3 v10 v11 v12 v13 v14 v15 : Z3) (ZbM L0 N v0 v3 v10 v11 v12 v13 v14 v15)
 unfold ZbM
 refine Mach.ok_ite (fun g0 => ?_) (fun g0 => ?_)
 ·
  by_cases g1 : ¬ (v10 = (5 : Int))
  ·
   by_cases g2 : ¬ (v10 = (10 : Int))
   ·
    refine Mach.ok_ite (fun g3 => ?_) (fun g3 => ?_)
    ·
     exact Mach.ok_next (M := Zab L0 N) (cd := 1000000) (cm := 0) (y := (.h1m0 ((v3 + 1)) : Z3)) (fu := 4000) (orc := (Zm [(1, true), (2, true)] [(0, (((v3 + 1) : Nat) : Int))] [] [] [])) (live := [0, 1]) (tv := fun _ => [some (vn), some (vp 0 0), some (vp 1 0), some (Value.func (.func 12) #[] #[vp 0 0, vp 1 0]), some (ms E_iiiiii L0), some (vi (L0.length : Int)), some (vi (((v3 + 1) : Nat) : Int))]) (bl := [some (.cells [vq, vq, vq] 45), some (.cells [vq, vq, vq] 45)]) (ob := [((IntKind.i64.wrap ((v3 : Int) + (1 : Int))) == (((v3 + 1) : Nat) : Int), true), ((v10 != (10 : Int)), true), ((v10 != (5 : Int)), true)]) rfl (show 1 ∈ Zl (Zb2 2) from by decide +kernel) (fun gv => by kernel_rfl) (Zb (beq_iff_eq.2 ((wrap_i64 ltA).trans (by first | rfl | omega))) <| oD <| oD Zf) rfl (by decide) (by rfl) (fun _ => ⟨rr, ⟨rr, ⟨rr, ⟨rr, ⟨rr, ⟨rr, ⟨rr, trivial⟩⟩⟩⟩⟩⟩⟩) ⟨⟨rfl, ⟨[], by rfl⟩, by rfl⟩, ⟨⟨rfl, ⟨[], by rfl⟩, by rfl⟩, trivial⟩⟩
    ·
     exact Mach.ok_none
   ·
    by_cases g3 : v15 ≤ (0 : Int)
    ·
     refine Mach.ok_ite (fun g4 => ?_) (fun g4 => ?_)
     ·
      exact Mach.ok_next (M := Zab L0 N) (cd := 1000000) (cm := 0) (y := (.h1m0 ((v3 + 1)) : Z3)) (fu := 4000) (orc := (Zm [(1, true), (2, false), (3, true)] [(0, (((v3 + 1) : Nat) : Int))] [] [] [])) (live := [0, 1]) (tv := fun _ => [some (vn), some (vp 0 0), some (vp 1 0), some (Value.func (.func 12) #[] #[vp 0 0, vp 1 0]), some (ms E_iiiiii L0), some (vi (L0.length : Int)), some (vi (((v3 + 1) : Nat) : Int))]) (bl := [some (.cells [vq, vq, vq] 45), some (.cells [vq, vq, vq] 45)]) (ob := [((IntKind.i64.wrap ((v3 : Int) + (1 : Int))) == (((v3 + 1) : Nat) : Int), true), ((decide (v15 ≤ (0 : Int))), true), ((v10 != (10 : Int)), false), ((v10 != (5 : Int)), true)]) rfl (show 1 ∈ Zl (Zb2 2) from by decide +kernel) (fun gv => by kernel_rfl) (Zb (beq_iff_eq.2 ((wrap_i64 ltA).trans (by first | rfl | omega))) <| oY <| oE <| oD Zf) rfl (by decide) (by rfl) (fun _ => ⟨rr, ⟨rr, ⟨rr, ⟨rr, ⟨rr, ⟨rr, ⟨rr, trivial⟩⟩⟩⟩⟩⟩⟩) ⟨⟨rfl, ⟨[], by rfl⟩, by rfl⟩, ⟨⟨rfl, ⟨[], by rfl⟩, by rfl⟩, trivial⟩⟩
     ·
      exact Mach.ok_none
    ·
     by_cases g4 : v11 = (0 : Int)
     ·
      refine Mach.ok_ite (fun g5 => ?_) (fun g5 => ?_)
      ·
       exact Mach.ok_next (M := Zab L0 N) (cd := 1000000) (cm := 0) (y := (.h1m0 ((v3 + 1)) : Z3)) (fu := 4000) (orc := (Zm [(1, true), (2, false), (3, false), (4, true), (5, false)] [(0, (((v3 + 1) : Nat) : Int))] [] [] [])) (live := [0, 1]) (tv := fun _ => [some (vn), some (vp 0 0), some (vp 1 0), some (Value.func (.func 12) #[] #[vp 0 0, vp 1 0]), some (ms E_iiiiii L0), some (vi (L0.length : Int)), some (vi (((v3 + 1) : Nat) : Int))]) (bl := [some (.cells [vq, vq, vq] 45), some (.cells [vq, vq, vq] 45)]) (ob := [((IntKind.i64.wrap ((v3 : Int) + (1 : Int))) == (((v3 + 1) : Nat) : Int), true), ((decide (v15 < (0 : Int))), false), ((v11 == (0 : Int)), true), ((decide (v15 ≤ (0 : Int))), false), ((v10 != (10 : Int)), false), ((v10 != (5 : Int)), true)]) rfl (show 1 ∈ Zl (Zb2 2) from by decide +kernel) (fun gv => by kernel_rfl) (Zb (beq_iff_eq.2 ((wrap_i64 ltA).trans (by first | rfl | omega))) <| oN <| oT <| oN <| oE <| oD Zf) rfl (by decide) (by rfl) (fun _ => ⟨rr, ⟨rr, ⟨rr, ⟨rr, ⟨rr, ⟨rr, ⟨rr, trivial⟩⟩⟩⟩⟩⟩⟩) ⟨⟨rfl, ⟨[], by rfl⟩, by rfl⟩, ⟨⟨rfl, ⟨[], by rfl⟩, by rfl⟩, trivial⟩⟩
      ·
       exact Mach.ok_none
     ·
      refine Mach.ok_ite (fun g5 => ?_) (fun g5 => ?_)
      ·
       exact Mach.ok_next (M := Zab L0 N) (cd := 1000000) (cm := 0) (y := (.h1m0 ((v3 + 1)) : Z3)) (fu := 4000) (orc := (Zm [(1, true), (2, false), (3, false), (4, false), (5, false)] [(0, (((v3 + 1) : Nat) : Int))] [] [] [])) (live := [0, 1]) (tv := fun _ => [some (vn), some (vp 0 0), some (vp 1 0), some (Value.func (.func 12) #[] #[vp 0 0, vp 1 0]), some (ms E_iiiiii L0), some (vi (L0.length : Int)), some (vi (((v3 + 1) : Nat) : Int))]) (bl := [some (.cells [vq, vq, vq] 45), some (.cells [vq, vq, vq] 45)]) (ob := [((IntKind.i64.wrap ((v3 : Int) + (1 : Int))) == (((v3 + 1) : Nat) : Int), true), ((decide (v15 < (0 : Int))), false), ((v11 == (0 : Int)), false), ((decide (v15 ≤ (0 : Int))), false), ((v10 != (10 : Int)), false), ((v10 != (5 : Int)), true)]) rfl (show 1 ∈ Zl (Zb2 2) from by decide +kernel) (fun gv => by kernel_rfl) (Zb (beq_iff_eq.2 ((wrap_i64 ltA).trans (by first | rfl | omega))) <| oN <| oF <| oN <| oE <| oD Zf) rfl (by decide) (by rfl) (fun _ => ⟨rr, ⟨rr, ⟨rr, ⟨rr, ⟨rr, ⟨rr, ⟨rr, trivial⟩⟩⟩⟩⟩⟩⟩) ⟨⟨rfl, ⟨[], by rfl⟩, by rfl⟩, ⟨⟨rfl, ⟨[], by rfl⟩, by rfl⟩, trivial⟩⟩
      ·
       exact Mach.ok_none
  ·
   by_cases g2 : v15 ≤ (0 : Int)
   ·
    refine Mach.ok_ite (fun g3 => ?_) (fun g3 => ?_)
    ·
     exact Mach.ok_next (M := Zab L0 N) (cd := 1000000) (cm := 0) (y := (.h1m0 ((v3 + 1)) : Z3)) (fu := 4000) (orc := (Zm [(1, false), (2, true)] [(0, (((v3 + 1) : Nat) : Int))] [] [] [])) (live := [0, 1]) (tv := fun _ => [some (vn), some (vp 0 0), some (vp 1 0), some (Value.func (.func 12) #[] #[vp 0 0, vp 1 0]), some (ms E_iiiiii L0), some (vi (L0.length : Int)), some (vi (((v3 + 1) : Nat) : Int))]) (bl := [some (.cells [vq, vq, vq] 45), some (.cells [vq, vq, vq] 45)]) (ob := [((IntKind.i64.wrap ((v3 : Int) + (1 : Int))) == (((v3 + 1) : Nat) : Int), true), ((decide (v15 ≤ (0 : Int))), true), ((v10 != (5 : Int)), false)]) rfl (show 1 ∈ Zl (Zb2 2) from by decide +kernel) (fun gv => by kernel_rfl) (Zb (beq_iff_eq.2 ((wrap_i64 ltA).trans (by first | rfl | omega))) <| oY <| oE Zf) rfl (by decide) (by rfl) (fun _ => ⟨rr, ⟨rr, ⟨rr, ⟨rr, ⟨rr, ⟨rr, ⟨rr, trivial⟩⟩⟩⟩⟩⟩⟩) ⟨⟨rfl, ⟨[], by rfl⟩, by rfl⟩, ⟨⟨rfl, ⟨[], by rfl⟩, by rfl⟩, trivial⟩⟩
    ·
     exact Mach.ok_none
   ·
    by_cases g3 : v11 = (0 : Int)
    ·
     refine Mach.ok_ite (fun g4 => ?_) (fun g4 => ?_)
     ·
      exact Mach.ok_next (M := Zab L0 N) (cd := 1000000) (cm := 0) (y := (.h1m0 ((v3 + 1)) : Z3)) (fu := 4000) (orc := (Zm [(1, false), (2, false), (3, true), (4, false)] [(0, (((v3 + 1) : Nat) : Int))] [] [] [])) (live := [0, 1]) (tv := fun _ => [some (vn), some (vp 0 0), some (vp 1 0), some (Value.func (.func 12) #[] #[vp 0 0, vp 1 0]), some (ms E_iiiiii L0), some (vi (L0.length : Int)), some (vi (((v3 + 1) : Nat) : Int))]) (bl := [some (.cells [vq, vq, vq] 45), some (.cells [vq, vq, vq] 45)]) (ob := [((IntKind.i64.wrap ((v3 : Int) + (1 : Int))) == (((v3 + 1) : Nat) : Int), true), ((decide (v15 < (0 : Int))), false), ((v11 == (0 : Int)), true), ((decide (v15 ≤ (0 : Int))), false), ((v10 != (5 : Int)), false)]) rfl (show 1 ∈ Zl (Zb2 2) from by decide +kernel) (fun gv => by kernel_rfl) (Zb (beq_iff_eq.2 ((wrap_i64 ltA).trans (by first | rfl | omega))) <| oN <| oT <| oN <| oE Zf) rfl (by decide) (by rfl) (fun _ => ⟨rr, ⟨rr, ⟨rr, ⟨rr, ⟨rr, ⟨rr, ⟨rr, trivial⟩⟩⟩⟩⟩⟩⟩) ⟨⟨rfl, ⟨[], by rfl⟩, by rfl⟩, ⟨⟨rfl, ⟨[], by rfl⟩, by rfl⟩, trivial⟩⟩
     ·
      exact Mach.ok_none
    ·
     refine Mach.ok_ite (fun g4 => ?_) (fun g4 => ?_)
     ·
      exact Mach.ok_next (M := Zab L0 N) (cd := 1000000) (cm := 0) (y := (.h1m0 ((v3 + 1)) : Z3)) (fu := 4000) (orc := (Zm [(1, false), (2, false), (3, false), (4, false)] [(0, (((v3 + 1) : Nat) : Int))] [] [] [])) (live := [0, 1]) (tv := fun _ => [some (vn), some (vp 0 0), some (vp 1 0), some (Value.func (.func 12) #[] #[vp 0 0, vp 1 0]), some (ms E_iiiiii L0), some (vi (L0.length : Int)), some (vi (((v3 + 1) : Nat) : Int))]) (bl := [some (.cells [vq, vq, vq] 45), some (.cells [vq, vq, vq] 45)]) (ob := [((IntKind.i64.wrap ((v3 : Int) + (1 : Int))) == (((v3 + 1) : Nat) : Int), true), ((decide (v15 < (0 : Int))), false), ((v11 == (0 : Int)), false), ((decide (v15 ≤ (0 : Int))), false), ((v10 != (5 : Int)), false)]) rfl (show 1 ∈ Zl (Zb2 2) from by decide +kernel) (fun gv => by kernel_rfl) (Zb (beq_iff_eq.2 ((wrap_i64 ltA).trans (by first | rfl | omega))) <| oN <| oF <| oN <| oE Zf) rfl (by decide) (by rfl) (fun _ => ⟨rr, ⟨rr, ⟨rr, ⟨rr, ⟨rr, ⟨rr, ⟨rr, trivial⟩⟩⟩⟩⟩⟩⟩) ⟨⟨rfl, ⟨[], by rfl⟩, by rfl⟩, ⟨⟨rfl, ⟨[], by rfl⟩, by rfl⟩, trivial⟩⟩
     ·
      exact Mach.ok_none
 ·
  exact Mach.ok_none

theorem Zjt (L0 : List RB) (N : Nat) : (Zab L0 N).Enter Tryz.prog Zx #[ms E_iiiiii L0, vn] (Zdh L0 N) := by
 unfold Zdh
 refine Mach.en_bind (fun z0 c0 => ?_)
 cases z0 with
 | r0 =>
  exact Mach.en_head (bK := Zbg 1) (M := Zab L0 N) (cd := 1000000) (cm := 0) (y := (.h1m0 (0) : Z3)) (fu := 4000) (orc := (Zm [] [] [] [] [(0, (ZiV (L0)    0))])) (live := [0, 1]) (tv := [some (vn), some (vp 0 0), some (vp 1 0), some (Value.func (.func 12) #[] #[vp 0 0, vp 1 0]), some (ms E_iiiiii L0), some (vi (L0.length : Int)), some (vq)]) (bl := [some (.cells [vq, vq, vq] 45), some (.cells [vq, vq, vq] 45)]) (ob := [(dP (ZeZ #[ms E_iiiiii L0, vn] (L0)    0), true)]) rfl rfl (show Zl (Zbg 1).2 = [] from rfl) (by kernel_rfl) (Zb (Zw (ZiW #[ms E_iiiiii L0, vn] (L0)   N c0  0 rfl (by decide) (by decide))) Zf) rfl (by decide) (by rfl) ⟨rr, ⟨rr, ⟨rr, ⟨rr, ⟨rr, ⟨rr, ⟨⟨Eq.trans (show (vi ((0 : Nat) : Int) : Value) = vq from (congrArg (Value.int .i64) (by first | rfl | omega))) (by rfl), by rfl⟩, trivial⟩⟩⟩⟩⟩⟩⟩ ⟨⟨rfl, ⟨[], by rfl⟩, by rfl⟩, ⟨⟨rfl, ⟨[], by rfl⟩, by rfl⟩, trivial⟩⟩

theorem Ziq (L0 : List RB) (N : Nat) (r : ZaC) (h : ZdL L0 N = some r) : LSpec Tryz.prog 7 #[ms E_iiiiii L0, vn] [] (Zhg L0 r) (Zgv L0 r) :=
 Mach.spec ZcN (Zab L0 N) Tryz.func7 (by kernel_rfl) (by kernel_rfl) (fun x => by cases x <;> exact ZaQ _ rfl) (fun r => by cases r <;> exact ZaQ _ rfl) (fun x => by
  cases x with
  | h1m0 _ => exact fun _ => (show ¬ (1 ∈ Zl (Zbg 1).2) from by decide +kernel)
  | h2m0 _ _ _ _ _ _ _ _ => exact fun _ => (show ¬ (2 ∈ Zl (Zbg 2).2) from by decide +kernel)
  ) (fun x => (show (Zab L0 N).Ok Tryz.prog Zx x (ZaN L0 N x) from by
  cases x with
  | h1m0 v2 => exact Zh8 L0 v2 N
  | h2m0 v0 v3 v10 v11 v12 v13 v14 v15 => exact Zh9 L0 v0 v3 v10 v11 v12 v13 v14 v15 N
  )) (Zjt L0 N) (n := N) h

noncomputable def ZjX (L0 : List RB) (n : Nat) : Zcn := .call [] (vq) [] 0
def Zgx (A : Array Value) (L0 : List RB) (n : Nat) : Prop := Zam Tryz.prog 7 A [] (vq) [] n 0

theorem ZjY (A : Array Value) (L0 : List RB) (N : Nat) (h : ZdL L0 N = some (.r0)) (n : Nat) (hA : A = #[ms E_iiiiii L0, vn]) (hnd : ([] : List Nat).Nodup) (hlt : ∀ k ∈ ([] : List Nat), k < n) : Zgx A L0  n :=
 Zb5 hA (LSpec.callL (show LSpec Tryz.prog 7 #[ms E_iiiiii L0, vn] [] (vq) [] from Ziq L0 N _ h) [] n [] rfl hnd hlt (show 0 ≤ 0 from by decide) (show ∀ j ∈ ([] : List Nat), j < 0 from by decide) (by rfl) trivial (by rfl) trivial trivial rfl rfl rfl rfl rfl)

noncomputable def ZhX (L0 : List RB) : ZaR → Value
 | .r0 => vq
noncomputable def Zhh (L0 : List RB) : ZaR → List (Option AObj)
 | .r0 => []

def Zlm : Z5 → Nat
 | .h1m0 v1 => 1
 | .h2m0 v1 v3 v4 v5 v6 v7 v8 => 2
noncomputable def ZlM (L0 : List RB) : Z5 → List (Nat × Value)
 | .h1m0 v1 => [(0, ms E_iiiiii L0), (1, vn), (5, vi (v1 : Int))]
 | .h2m0 v1 v3 v4 v5 v6 v7 v8 => [(0, ms E_iiiiii L0), (1, vn), (5, vi (v1 : Int)), (6, vp 0 0), (7, vq)]
noncomputable def ZlN (L0 : List RB) : Z5 → List (Option AObj)
 | .h1m0 v1 => []
 | .h2m0 v1 v3 v4 v5 v6 v7 v8 => [some (.cells [vi v3, vi v4, vi v5, vi v6, vi v7, vi v8] 41)]

noncomputable def ZaU : Nat → Code × List Zaw
 | 1 => ZaP [1, 0, 1, 3] (Zb9 Tryz.f8) []
 | 2 => ZaP [1, 0, 1, 3, 7, 1, 0, 3, 1, 1, 1, 3] (Zb9 Tryz.f8) []
 | _ => (.skip, [])
def Zhi : Nat → Bool
 | 1 => true
 | 2 => true
 | _ => true
noncomputable def ZcB (i : Nat) : List Zaw := match Zhi i with | true => .rnd i :: (ZaU i).2 | false => (ZaU i).2

noncomputable def Zas (L0 : List RB) (N : Nat) : Mach := ⟨Tryz.f8, [], Z5, ZaR, Za5 L0 N, Zlm, ZaU, Zhi, ZlM L0, ZlN L0, ZhX L0, Zhh L0⟩

theorem Zir (L0 : List RB) (v1 N : Nat) : (Zas L0 N).Ok Tryz.prog Zx (.h1m0 v1 : Z5) (Za5 L0 N (.h1m0 v1 : Z5)) := by
 show (Zas L0 N).Ok Tryz.prog Zx (.h1m0 v1 : Z5) (Zae L0 N v1)
 unfold Zae
 refine Mach.ok_ite (fun g0 => ?_) (fun g0 => ?_)
 ·
  refine Mach.ok_ite (fun g1 => ?_) (fun g1 => ?_)
  ·
   refine Mach.ok_ite (fun g2 => ?_) (fun g2 => ?_)
   ·
    refine Mach.ok_ite (fun g3 => ?_) (fun g3 => ?_)
    ·
     exact Mach.ok_next (M := Zas L0 N) (cd := 1000000) (cm := 0) (y := (.h1m0 ((v1 + 1)) : Z5)) (fu := 4000) (orc := (Zm [(0, true), (1, true), (2, true)] [(0, (((v1 + 1) : Nat) : Int))] [(0, v1)] [(0, [.i (L0.getD v1 RB.z).a0, .i (L0.getD v1 RB.z).a1, .i (L0.getD v1 RB.z).a2, .i (L0.getD v1 RB.z).a3, .i (L0.getD v1 RB.z).a4, .i (L0.getD v1 RB.z).a5])] [])) (live := []) (tv := fun _ => [some (ms E_iiiiii L0), some (vn), some (vi (((v1 + 1) : Nat) : Int))]) (bl := []) (ob := [((IntKind.i64.wrap ((v1 : Int) + (1 : Int))) == (((v1 + 1) : Nat) : Int), true), (((L0.getD v1 RB.z).a0 != (10 : Int)), true), (((L0.getD v1 RB.z).a0 != (5 : Int)), true), (dP (ZV (code (Z6 E_iiiiii L0)) (0 + (v1 * 6)) 6 = some [.i (L0.getD v1 RB.z).a0, .i (L0.getD v1 RB.z).a1, .i (L0.getD v1 RB.z).a2, .i (L0.getD v1 RB.z).a3, .i (L0.getD v1 RB.z).a4, .i (L0.getD v1 RB.z).a5]), true), (Nat.blt v1 L0.length, true), ((v1 : Int) == Int.ofNat v1, true), ((decide ((v1 : Int) < (L0.length : Int))), true)]) rfl (show 1 ∈ Zl (ZcB 1) from by decide +kernel) (fun gv => by kernel_rfl) (Zb (beq_iff_eq.2 ((wrap_i64 ltA).trans (by first | rfl | omega))) <| oD <| oD <| Zb (Zw (ZJ (E := E_iiiiii) (L := L0) (i := v1) (q := 0) (by omega) (show (0 + (v1 * 6)) = v1 * 6 + 0 from by omega) (show 0 + 6 ≤ 6 from by decide) rfl)) <| oB <| oI <| oY Zf) rfl (by decide) (by rfl) (fun _ => ⟨rr, ⟨rr, ⟨rr, trivial⟩⟩⟩) trivial
    ·
     refine Mach.ok_ite (fun g4 => ?_) (fun g4 => ?_)
     ·
      exact Mach.ok_next (M := Zas L0 N) (cd := 1000000) (cm := 0) (y := (.h1m0 ((v1 + 1)) : Z5)) (fu := 4000) (orc := (Zm [(0, true), (1, true), (2, false), (3, true)] [(0, (((v1 + 1) : Nat) : Int))] [(0, v1)] [(0, [.i (L0.getD v1 RB.z).a0, .i (L0.getD v1 RB.z).a1, .i (L0.getD v1 RB.z).a2, .i (L0.getD v1 RB.z).a3, .i (L0.getD v1 RB.z).a4, .i (L0.getD v1 RB.z).a5])] [])) (live := []) (tv := fun _ => [some (ms E_iiiiii L0), some (vn), some (vi (((v1 + 1) : Nat) : Int))]) (bl := []) (ob := [((IntKind.i64.wrap ((v1 : Int) + (1 : Int))) == (((v1 + 1) : Nat) : Int), true), ((decide ((L0.getD v1 RB.z).a5 ≤ (0 : Int))), true), (((L0.getD v1 RB.z).a0 != (10 : Int)), false), (((L0.getD v1 RB.z).a0 != (5 : Int)), true), (dP (ZV (code (Z6 E_iiiiii L0)) (0 + (v1 * 6)) 6 = some [.i (L0.getD v1 RB.z).a0, .i (L0.getD v1 RB.z).a1, .i (L0.getD v1 RB.z).a2, .i (L0.getD v1 RB.z).a3, .i (L0.getD v1 RB.z).a4, .i (L0.getD v1 RB.z).a5]), true), (Nat.blt v1 L0.length, true), ((v1 : Int) == Int.ofNat v1, true), ((decide ((v1 : Int) < (L0.length : Int))), true)]) rfl (show 1 ∈ Zl (ZcB 1) from by decide +kernel) (fun gv => by kernel_rfl) (Zb (beq_iff_eq.2 ((wrap_i64 ltA).trans (by first | rfl | omega))) <| oY <| oE <| oD <| Zb (Zw (ZJ (E := E_iiiiii) (L := L0) (i := v1) (q := 0) (by omega) (show (0 + (v1 * 6)) = v1 * 6 + 0 from by omega) (show 0 + 6 ≤ 6 from by decide) rfl)) <| oB <| oI <| oY Zf) rfl (by decide) (by rfl) (fun _ => ⟨rr, ⟨rr, ⟨rr, trivial⟩⟩⟩) trivial
     ·
      exact Mach.ok_head (bK := ZaU 2) (M := Zas L0 N) (cd := 1000000) (cm := 0) (y := (.h2m0 (v1) ((L0.getD v1 RB.z).a0) ((L0.getD v1 RB.z).a1) ((L0.getD v1 RB.z).a2) ((L0.getD v1 RB.z).a3) ((L0.getD v1 RB.z).a4) ((L0.getD v1 RB.z).a5) : Z5)) (fu := 4000) (orc := (Zm [(0, true), (1, true), (2, false), (3, false)] [] [(0, v1)] [(0, [.i (L0.getD v1 RB.z).a0, .i (L0.getD v1 RB.z).a1, .i (L0.getD v1 RB.z).a2, .i (L0.getD v1 RB.z).a3, .i (L0.getD v1 RB.z).a4, .i (L0.getD v1 RB.z).a5])] [])) (live := [0]) (tv := fun _ => [some (ms E_iiiiii L0), some (vn), some (vi (v1 : Int)), some (vp 0 0), some (vq)]) (bl := [some (.cells [vi (L0.getD v1 RB.z).a0, vi (L0.getD v1 RB.z).a1, vi (L0.getD v1 RB.z).a2, vi (L0.getD v1 RB.z).a3, vi (L0.getD v1 RB.z).a4, vi (L0.getD v1 RB.z).a5] 41)]) (ob := [((decide ((L0.getD v1 RB.z).a5 ≤ (0 : Int))), false), (((L0.getD v1 RB.z).a0 != (10 : Int)), false), (((L0.getD v1 RB.z).a0 != (5 : Int)), true), (dP (ZV (code (Z6 E_iiiiii L0)) (0 + (v1 * 6)) 6 = some [.i (L0.getD v1 RB.z).a0, .i (L0.getD v1 RB.z).a1, .i (L0.getD v1 RB.z).a2, .i (L0.getD v1 RB.z).a3, .i (L0.getD v1 RB.z).a4, .i (L0.getD v1 RB.z).a5]), true), (Nat.blt v1 L0.length, true), ((v1 : Int) == Int.ofNat v1, true), ((decide ((v1 : Int) < (L0.length : Int))), true)]) rfl rfl (show ∀ j ∈ Zl (ZaU 2).2, j ∈ Zl (ZcB 1) from by decide +kernel) (fun gv => by kernel_rfl) (oN <| oE <| oD <| Zb (Zw (ZJ (E := E_iiiiii) (L := L0) (i := v1) (q := 0) (by omega) (show (0 + (v1 * 6)) = v1 * 6 + 0 from by omega) (show 0 + 6 ≤ 6 from by decide) rfl)) <| oB <| oI <| oY Zf) rfl (by decide) (by rfl) (fun _ => ⟨rr, ⟨rr, ⟨rr, ⟨rr, ⟨rr, trivial⟩⟩⟩⟩⟩) ⟨⟨rfl, ⟨[], by rfl⟩, by rfl⟩, trivial⟩
   ·
    refine Mach.ok_ite (fun g3 => ?_) (fun g3 => ?_)
    ·
     exact Mach.ok_next (M := Zas L0 N) (cd := 1000000) (cm := 0) (y := (.h1m0 ((v1 + 1)) : Z5)) (fu := 4000) (orc := (Zm [(0, true), (1, false), (2, true)] [(0, (((v1 + 1) : Nat) : Int))] [(0, v1)] [(0, [.i (L0.getD v1 RB.z).a0, .i (L0.getD v1 RB.z).a1, .i (L0.getD v1 RB.z).a2, .i (L0.getD v1 RB.z).a3, .i (L0.getD v1 RB.z).a4, .i (L0.getD v1 RB.z).a5])] [])) (live := []) (tv := fun _ => [some (ms E_iiiiii L0), some (vn), some (vi (((v1 + 1) : Nat) : Int))]) (bl := []) (ob := [((IntKind.i64.wrap ((v1 : Int) + (1 : Int))) == (((v1 + 1) : Nat) : Int), true), ((decide ((L0.getD v1 RB.z).a5 ≤ (0 : Int))), true), (((L0.getD v1 RB.z).a0 != (5 : Int)), false), (dP (ZV (code (Z6 E_iiiiii L0)) (0 + (v1 * 6)) 6 = some [.i (L0.getD v1 RB.z).a0, .i (L0.getD v1 RB.z).a1, .i (L0.getD v1 RB.z).a2, .i (L0.getD v1 RB.z).a3, .i (L0.getD v1 RB.z).a4, .i (L0.getD v1 RB.z).a5]), true), (Nat.blt v1 L0.length, true), ((v1 : Int) == Int.ofNat v1, true), ((decide ((v1 : Int) < (L0.length : Int))), true)]) rfl (show 1 ∈ Zl (ZcB 1) from by decide +kernel) (fun gv => by kernel_rfl) (Zb (beq_iff_eq.2 ((wrap_i64 ltA).trans (by first | rfl | omega))) <| oY <| oE <| Zb (Zw (ZJ (E := E_iiiiii) (L := L0) (i := v1) (q := 0) (by omega) (show (0 + (v1 * 6)) = v1 * 6 + 0 from by omega) (show 0 + 6 ≤ 6 from by decide) rfl)) <| oB <| oI <| oY Zf) rfl (by decide) (by rfl) (fun _ => ⟨rr, ⟨rr, ⟨rr, trivial⟩⟩⟩) trivial
    ·
     exact Mach.ok_head (bK := ZaU 2) (M := Zas L0 N) (cd := 1000000) (cm := 0) (y := (.h2m0 (v1) ((L0.getD v1 RB.z).a0) ((L0.getD v1 RB.z).a1) ((L0.getD v1 RB.z).a2) ((L0.getD v1 RB.z).a3) ((L0.getD v1 RB.z).a4) ((L0.getD v1 RB.z).a5) : Z5)) (fu := 4000) (orc := (Zm [(0, true), (1, false), (2, false)] [] [(0, v1)] [(0, [.i (L0.getD v1 RB.z).a0, .i (L0.getD v1 RB.z).a1, .i (L0.getD v1 RB.z).a2, .i (L0.getD v1 RB.z).a3, .i (L0.getD v1 RB.z).a4, .i (L0.getD v1 RB.z).a5])] [])) (live := [0]) (tv := fun _ => [some (ms E_iiiiii L0), some (vn), some (vi (v1 : Int)), some (vp 0 0), some (vq)]) (bl := [some (.cells [vi (L0.getD v1 RB.z).a0, vi (L0.getD v1 RB.z).a1, vi (L0.getD v1 RB.z).a2, vi (L0.getD v1 RB.z).a3, vi (L0.getD v1 RB.z).a4, vi (L0.getD v1 RB.z).a5] 41)]) (ob := [((decide ((L0.getD v1 RB.z).a5 ≤ (0 : Int))), false), (((L0.getD v1 RB.z).a0 != (5 : Int)), false), (dP (ZV (code (Z6 E_iiiiii L0)) (0 + (v1 * 6)) 6 = some [.i (L0.getD v1 RB.z).a0, .i (L0.getD v1 RB.z).a1, .i (L0.getD v1 RB.z).a2, .i (L0.getD v1 RB.z).a3, .i (L0.getD v1 RB.z).a4, .i (L0.getD v1 RB.z).a5]), true), (Nat.blt v1 L0.length, true), ((v1 : Int) == Int.ofNat v1, true), ((decide ((v1 : Int) < (L0.length : Int))), true)]) rfl rfl (show ∀ j ∈ Zl (ZaU 2).2, j ∈ Zl (ZcB 1) from by decide +kernel) (fun gv => by kernel_rfl) (oN <| oE <| Zb (Zw (ZJ (E := E_iiiiii) (L := L0) (i := v1) (q := 0) (by omega) (show (0 + (v1 * 6)) = v1 * 6 + 0 from by omega) (show 0 + 6 ≤ 6 from by decide) rfl)) <| oB <| oI <| oY Zf) rfl (by decide) (by rfl) (fun _ => ⟨rr, ⟨rr, ⟨rr, ⟨rr, ⟨rr, trivial⟩⟩⟩⟩⟩) ⟨⟨rfl, ⟨[], by rfl⟩, by rfl⟩, trivial⟩
  ·
   exact Mach.ok_fin (M := Zas L0 N) (cd := 1000000) (cm := 0) (r := (.r0 : ZaR)) (fu := 4000) (orc := (Zm [(0, false)] [] [] [] [])) (live := []) (u := vq) (bl := []) (ob := [((decide ((v1 : Int) < (L0.length : Int))), false)]) (fun gv => by kernel_rfl) (oN Zf) rfl (by decide) (by rfl) rr trivial
 ·
  exact Mach.ok_none

theorem Zis (L0 : List RB) (v1 : Nat) (v3 v4 v5 v6 v7 v8 : Int) (N : Nat) : (Zas L0 N).Ok Tryz.prog Zx (.h2m0 v1 v3 v4 v5 v6 v7 v8 : Z5) (Za5 L0 N (.h2m0 v1 v3 v4 v5 v6 v7 v8 : Z5)) := by
 show (Zas L0 N).Ok Tryz.prog Zx (.h2m0 v1 v3 v4 v5 v6 v7 v8 : Z5) (Zcb L0 N v1 v3 v4 v5 v6 v7 v8)
 unfold Zcb
 refine Mach.ok_ite (fun g0 => ?_) (fun g0 => ?_)
 ·
  refine Mach.ok_ite (fun g1 => ?_) (fun g1 => ?_)
  ·
   exact Mach.ok_next (M := Zas L0 N) (cd := 1000000) (cm := 0) (y := (.h1m0 ((v1 + 1)) : Z5)) (fu := 4000) (orc := (Zm [] [(0, (((v1 + 1) : Nat) : Int))] [] [] [])) (live := []) (tv := fun _ => [some (ms E_iiiiii L0), some (vn), some (vi (((v1 + 1) : Nat) : Int))]) (bl := []) (ob := [((IntKind.i64.wrap ((v1 : Int) + (1 : Int))) == (((v1 + 1) : Nat) : Int), true)]) rfl (show 1 ∈ Zl (ZcB 2) from by decide +kernel) (fun gv => by kernel_rfl) (Zb (beq_iff_eq.2 ((wrap_i64 ltA).trans (by first | rfl | omega))) Zf) rfl (by decide) (by rfl) (fun _ => ⟨rr, ⟨rr, ⟨rr, trivial⟩⟩⟩) trivial
  ·
   exact Mach.ok_none
 ·
  exact Mach.ok_none

theorem ZjZ (L0 : List RB) (N : Nat) : (Zas L0 N).Enter Tryz.prog Zx #[ms E_iiiiii L0, vn] (ZeK L0 N) := by
 unfold ZeK
 exact Mach.en_head (bK := ZaU 1) (M := Zas L0 N) (cd := 1000000) (cm := 0) (y := (.h1m0 (0) : Z5)) (fu := 4000) (orc := (Zm [] [] [] [] [])) (live := []) (tv := [some (ms E_iiiiii L0), some (vn), some (vq)]) (bl := []) (ob := []) rfl rfl (show Zl (ZaU 1).2 = [] from rfl) (by kernel_rfl) Zf rfl (by decide) (by rfl) ⟨rr, ⟨rr, ⟨⟨Eq.trans (show (vi ((0 : Nat) : Int) : Value) = vq from (congrArg (Value.int .i64) (by first | rfl | omega))) (by rfl), by rfl⟩, trivial⟩⟩⟩ trivial

theorem ZiX (L0 : List RB) (N : Nat) (r : ZaR) (h : Zew L0 N = some r) : LSpec Tryz.prog 8 #[ms E_iiiiii L0, vn] [] (ZhX L0 r) (Zhh L0 r) :=
 Mach.spec ZcN (Zas L0 N) Tryz.func8 (by kernel_rfl) (by kernel_rfl) (fun x => by cases x <;> exact ZaQ _ rfl) (fun r => by cases r <;> exact ZaQ _ rfl) (fun x => by
  cases x with
  | h1m0 _ => exact fun _ => (show ¬ (1 ∈ Zl (ZaU 1).2) from by decide +kernel)
  | h2m0 _ _ _ _ _ _ _ => exact fun _ => (show ¬ (2 ∈ Zl (ZaU 2).2) from by decide +kernel)
  ) (fun x => (show (Zas L0 N).Ok Tryz.prog Zx x (Za5 L0 N x) from by
  cases x with
  | h1m0 v1 => exact Zir L0 v1 N
  | h2m0 v1 v3 v4 v5 v6 v7 v8 => exact Zis L0 v1 v3 v4 v5 v6 v7 v8 N
  )) (ZjZ L0 N) (n := N) h

noncomputable def Zln (L0 : List RB) (n : Nat) : Zcn := .call [] (vq) [] 0
def Zhj (A : Array Value) (L0 : List RB) (n : Nat) : Prop := Zam Tryz.prog 8 A [] (vq) [] n 0

theorem Zlo (A : Array Value) (L0 : List RB) (N : Nat) (h : Zew L0 N = some (.r0)) (n : Nat) (hA : A = #[ms E_iiiiii L0, vn]) (hnd : ([] : List Nat).Nodup) (hlt : ∀ k ∈ ([] : List Nat), k < n) : Zhj A L0  n :=
 Zb5 hA (LSpec.callL (show LSpec Tryz.prog 8 #[ms E_iiiiii L0, vn] [] (vq) [] from ZiX L0 N _ h) [] n [] rfl hnd hlt (show 0 ≤ 0 from by decide) (show ∀ j ∈ ([] : List Nat), j < 0 from by decide) (by rfl) trivial (by rfl) trivial trivial rfl rfl rfl rfl rfl)

noncomputable def ZfH (L0 : List RB) (a1 a2 a3 a4 a5 a6 : Int) (L7 : List R_ii) (a8 : Int) : Zz → Value
 | .r0 w0 w1 => Value.tuple #[vi w0, Value.bool w1]
noncomputable def Zfa (L0 : List RB) (a1 a2 a3 a4 a5 a6 : Int) (L7 : List R_ii) (a8 : Int) : Zz → List (Option AObj)
 | .r0 w0 w1 => []

def ZiY : Z4 → Nat
 | .h1m0 v2 v3 => 1
noncomputable def Zju (L0 : List RB) (a1 a2 a3 a4 a5 a6 : Int) (L7 : List R_ii) (a8 : Int) : Z4 → List (Nat × Value)
 | .h1m0 v2 v3 => [(2, vp 0 0), (3, vp 1 0), (7, vi (L0.getD ((a5 - (1 : Int))).toNat RB.z).a5), (8, vq), (9, Value.bool v2), (10, vi v3)]
noncomputable def Zjv (L0 : List RB) (a1 a2 a3 a4 a5 a6 : Int) (L7 : List R_ii) (a8 : Int) : Z4 → List (Option AObj)
 | .h1m0 v2 v3 => [some (.cells [ms E_iiiiii L0] 22), some (.cells [vi a1, vi a2, vi a3, vi a4, vi a5, vi a6, ms E_ii L7, vi a8] 31)]

noncomputable def ZbF : Nat → Code × List Zaw
 | 1 => ZaP [1, 2, 1, 1, 1, 1, 0, 1, 3] (Zb9 Tryz.f5) []
 | _ => (.skip, [])
def Zfb : Nat → Bool
 | 1 => true
 | _ => true
noncomputable def Zcu (i : Nat) : List Zaw := match Zfb i with | true => .rnd i :: (ZbF i).2 | false => (ZbF i).2

noncomputable def Z9 (L0 : List RB) (a1 a2 a3 a4 a5 a6 : Int) (L7 : List R_ii) (a8 : Int) (N : Nat) : Mach := ⟨Tryz.f5, [], Z4, Zz, ZaM L0 a1 a2 a3 a4 a5 a6 L7 a8 N, ZiY, ZbF, Zfb, Zju L0 a1 a2 a3 a4 a5 a6 L7 a8, Zjv L0 a1 a2 a3 a4 a5 a6 L7 a8, ZfH L0 a1 a2 a3 a4 a5 a6 L7 a8, Zfa L0 a1 a2 a3 a4 a5 a6 L7 a8⟩

theorem Zg1 (L0 : List RB) (a1 a2 a3 a4 a5 a6 : Int) (L7 : List R_ii) (a8 : Int) (v2 : Bool) (v3 : Int) (N : Nat) : (Z9 L0 a1 a2 a3 a4 a5 a6 L7 a8 N).Ok Tryz.prog Zx (.h1m0 v2 v3 : Z4) (ZaM L0 a1 a2 a3 a4 a5 a6 L7 a8 N (.h1m0 v2 v3 : Z4)) := by
 show (Z9 L0 a1 a2 a3 a4 a5 a6 L7 a8 N).Ok Tryz.prog Zx (.h1m0 v2 v3 : Z4) (ZG L0 a1 a2 a3 a4 a5 a6 L7 a8 N v2 v3)
 unfold ZG
 refine Mach.ok_ite (fun g0 => ?_) (fun g0 => ?_)
 ·
  subst g0
  refine Mach.ok_ite (fun g1 => ?_) (fun g1 => ?_)
  ·
   refine Mach.ok_ite (fun g2 => ?_) (fun g2 => ?_)
   ·
    refine Mach.ok_ite (fun g3 => ?_) (fun g3 => ?_)
    ·
     refine Mach.ok_ite (fun g4 => ?_) (fun g4 => ?_)
     ·
      exact Mach.ok_next (M := Z9 L0 a1 a2 a3 a4 a5 a6 L7 a8 N) (cd := 1000000) (cm := 0) (y := (.h1m0 (true) ((v3 + (1 : Int))) : Z4)) (fu := 4000) (orc := (Zm [(0, true), (1, true)] [(0, (v3 - (1 : Int))), (1, (v3 + (1 : Int)))] [(0, ((v3 - (1 : Int))).toNat)] [(2, [.i (L0.getD ((v3 - (1 : Int))).toNat RB.z).a0, .i (L0.getD ((v3 - (1 : Int))).toNat RB.z).a1, .i (L0.getD ((v3 - (1 : Int))).toNat RB.z).a2, .i (L0.getD ((v3 - (1 : Int))).toNat RB.z).a3, .i (L0.getD ((v3 - (1 : Int))).toNat RB.z).a4, .i (L0.getD ((v3 - (1 : Int))).toNat RB.z).a5])] [])) (live := [0, 1]) (tv := fun _ => [some (vp 0 0), some (vp 1 0), some (vi (L0.getD ((a5 - (1 : Int))).toNat RB.z).a5), some (vq), some (vT), some (vi (v3 + (1 : Int)))]) (bl := [some (.cells [ms E_iiiiii L0] 22), some (.cells [vi a1, vi a2, vi a3, vi a4, vi a5, vi a6, ms E_ii L7, vi a8] 31)]) (ob := [((IntKind.i64.wrap (v3 + (1 : Int))) == (v3 + (1 : Int)), true), (((L0.getD ((v3 - (1 : Int))).toNat RB.z).a1 != a2), true), (dP (ZV (code (Z6 E_iiiiii L0)) (0 + (((v3 - (1 : Int))).toNat * 6)) 6 = some [.i (L0.getD ((v3 - (1 : Int))).toNat RB.z).a0, .i (L0.getD ((v3 - (1 : Int))).toNat RB.z).a1, .i (L0.getD ((v3 - (1 : Int))).toNat RB.z).a2, .i (L0.getD ((v3 - (1 : Int))).toNat RB.z).a3, .i (L0.getD ((v3 - (1 : Int))).toNat RB.z).a4, .i (L0.getD ((v3 - (1 : Int))).toNat RB.z).a5]), true), (Nat.blt ((v3 - (1 : Int))).toNat L0.length, true), ((v3 - (1 : Int)) == Int.ofNat ((v3 - (1 : Int))).toNat, true), ((IntKind.i64.wrap (v3 - (1 : Int))) == (v3 - (1 : Int)), true), ((decide (v3 ≤ (L0.length : Int))), true)]) rfl (show 1 ∈ Zl (Zcu 1) from by decide +kernel) (fun gv => by kernel_rfl) (Zb (beq_iff_eq.2 ((wrap_i64 ltA).trans (by first | rfl | omega))) <| oD <| Zb (Zw (ZJ (E := E_iiiiii) (L := L0) (i := ((v3 - (1 : Int))).toNat) (q := 0) (by omega) (show (0 + (((v3 - (1 : Int))).toNat * 6)) = ((v3 - (1 : Int))).toNat * 6 + 0 from by omega) (show 0 + 6 ≤ 6 from by decide) rfl)) <| oB <| oI <| Zb (beq_iff_eq.2 ((wrap_i64 ltA).trans (by first | rfl | omega))) <| oY Zf) rfl (by decide) (by rfl) (fun _ => ⟨rr, ⟨rr, ⟨rr, ⟨rr, ⟨rr, ⟨rr, trivial⟩⟩⟩⟩⟩⟩) ⟨⟨rfl, ⟨[], by rfl⟩, by rfl⟩, ⟨⟨rfl, ⟨[], by rfl⟩, by rfl⟩, trivial⟩⟩
     ·
      refine Mach.ok_ite (fun g5 => ?_) (fun g5 => ?_)
      ·
       exact Mach.ok_fin (M := Z9 L0 a1 a2 a3 a4 a5 a6 L7 a8 N) (cd := 1000000) (cm := 0) (r := (.r0 (v3) (true) : Zz)) (fu := 4000) (orc := (Zm [(0, true), (1, false), (2, true), (4, false)] [(0, (v3 - (1 : Int)))] [(0, ((v3 - (1 : Int))).toNat)] [(2, [.i (L0.getD ((v3 - (1 : Int))).toNat RB.z).a0, .i (L0.getD ((v3 - (1 : Int))).toNat RB.z).a1, .i (L0.getD ((v3 - (1 : Int))).toNat RB.z).a2, .i (L0.getD ((v3 - (1 : Int))).toNat RB.z).a3, .i (L0.getD ((v3 - (1 : Int))).toNat RB.z).a4, .i (L0.getD ((v3 - (1 : Int))).toNat RB.z).a5])] [])) (live := []) (u := Value.tuple #[vi v3, vT]) (bl := []) (ob := [((v3 == (0 : Int)), false), (((L0.getD ((v3 - (1 : Int))).toNat RB.z).a5 != (L0.getD ((a5 - (1 : Int))).toNat RB.z).a5), true), (((L0.getD ((v3 - (1 : Int))).toNat RB.z).a1 != a2), false), (dP (ZV (code (Z6 E_iiiiii L0)) (0 + (((v3 - (1 : Int))).toNat * 6)) 6 = some [.i (L0.getD ((v3 - (1 : Int))).toNat RB.z).a0, .i (L0.getD ((v3 - (1 : Int))).toNat RB.z).a1, .i (L0.getD ((v3 - (1 : Int))).toNat RB.z).a2, .i (L0.getD ((v3 - (1 : Int))).toNat RB.z).a3, .i (L0.getD ((v3 - (1 : Int))).toNat RB.z).a4, .i (L0.getD ((v3 - (1 : Int))).toNat RB.z).a5]), true), (Nat.blt ((v3 - (1 : Int))).toNat L0.length, true), ((v3 - (1 : Int)) == Int.ofNat ((v3 - (1 : Int))).toNat, true), ((IntKind.i64.wrap (v3 - (1 : Int))) == (v3 - (1 : Int)), true), ((decide (v3 ≤ (L0.length : Int))), true)]) (fun gv => by kernel_rfl) (oF <| oD <| oE <| Zb (Zw (ZJ (E := E_iiiiii) (L := L0) (i := ((v3 - (1 : Int))).toNat) (q := 0) (by omega) (show (0 + (((v3 - (1 : Int))).toNat * 6)) = ((v3 - (1 : Int))).toNat * 6 + 0 from by omega) (show 0 + 6 ≤ 6 from by decide) rfl)) <| oB <| oI <| Zb (beq_iff_eq.2 ((wrap_i64 ltA).trans (by first | rfl | omega))) <| oY Zf) rfl (by decide) (by rfl) rr trivial
      ·
       exact Mach.ok_next (M := Z9 L0 a1 a2 a3 a4 a5 a6 L7 a8 N) (cd := 1000000) (cm := 0) (y := (.h1m0 (true) ((v3 + (1 : Int))) : Z4)) (fu := 4000) (orc := (Zm [(0, true), (1, false), (2, false)] [(0, (v3 - (1 : Int))), (1, (v3 + (1 : Int)))] [(0, ((v3 - (1 : Int))).toNat)] [(2, [.i (L0.getD ((v3 - (1 : Int))).toNat RB.z).a0, .i (L0.getD ((v3 - (1 : Int))).toNat RB.z).a1, .i (L0.getD ((v3 - (1 : Int))).toNat RB.z).a2, .i (L0.getD ((v3 - (1 : Int))).toNat RB.z).a3, .i (L0.getD ((v3 - (1 : Int))).toNat RB.z).a4, .i (L0.getD ((v3 - (1 : Int))).toNat RB.z).a5])] [])) (live := [0, 1]) (tv := fun _ => [some (vp 0 0), some (vp 1 0), some (vi (L0.getD ((a5 - (1 : Int))).toNat RB.z).a5), some (vq), some (vT), some (vi (v3 + (1 : Int)))]) (bl := [some (.cells [ms E_iiiiii L0] 22), some (.cells [vi a1, vi a2, vi a3, vi a4, vi a5, vi a6, ms E_ii L7, vi a8] 31)]) (ob := [((IntKind.i64.wrap (v3 + (1 : Int))) == (v3 + (1 : Int)), true), (((L0.getD ((v3 - (1 : Int))).toNat RB.z).a5 != (L0.getD ((a5 - (1 : Int))).toNat RB.z).a5), false), (((L0.getD ((v3 - (1 : Int))).toNat RB.z).a1 != a2), false), (dP (ZV (code (Z6 E_iiiiii L0)) (0 + (((v3 - (1 : Int))).toNat * 6)) 6 = some [.i (L0.getD ((v3 - (1 : Int))).toNat RB.z).a0, .i (L0.getD ((v3 - (1 : Int))).toNat RB.z).a1, .i (L0.getD ((v3 - (1 : Int))).toNat RB.z).a2, .i (L0.getD ((v3 - (1 : Int))).toNat RB.z).a3, .i (L0.getD ((v3 - (1 : Int))).toNat RB.z).a4, .i (L0.getD ((v3 - (1 : Int))).toNat RB.z).a5]), true), (Nat.blt ((v3 - (1 : Int))).toNat L0.length, true), ((v3 - (1 : Int)) == Int.ofNat ((v3 - (1 : Int))).toNat, true), ((IntKind.i64.wrap (v3 - (1 : Int))) == (v3 - (1 : Int)), true), ((decide (v3 ≤ (L0.length : Int))), true)]) rfl (show 1 ∈ Zl (Zcu 1) from by decide +kernel) (fun gv => by kernel_rfl) (Zb (beq_iff_eq.2 ((wrap_i64 ltA).trans (by first | rfl | omega))) <| oE <| oE <| Zb (Zw (ZJ (E := E_iiiiii) (L := L0) (i := ((v3 - (1 : Int))).toNat) (q := 0) (by omega) (show (0 + (((v3 - (1 : Int))).toNat * 6)) = ((v3 - (1 : Int))).toNat * 6 + 0 from by omega) (show 0 + 6 ≤ 6 from by decide) rfl)) <| oB <| oI <| Zb (beq_iff_eq.2 ((wrap_i64 ltA).trans (by first | rfl | omega))) <| oY Zf) rfl (by decide) (by rfl) (fun _ => ⟨rr, ⟨rr, ⟨rr, ⟨rr, ⟨rr, ⟨rr, trivial⟩⟩⟩⟩⟩⟩) ⟨⟨rfl, ⟨[], by rfl⟩, by rfl⟩, ⟨⟨rfl, ⟨[], by rfl⟩, by rfl⟩, trivial⟩⟩
    ·
     exact Mach.ok_fin (M := Z9 L0 a1 a2 a3 a4 a5 a6 L7 a8 N) (cd := 1000000) (cm := 0) (r := (.r0 ((0 : Int)) (false) : Zz)) (fu := 4000) (orc := (Zm [(0, false)] [] [] [] [])) (live := []) (u := Value.tuple #[vq, vf]) (bl := []) (ob := [((decide (v3 ≤ (L0.length : Int))), false)]) (fun gv => by kernel_rfl) (oN Zf) rfl (by decide) (by rfl) rr trivial
   ·
    exact Mach.ok_none
  ·
   exact Mach.ok_none
 ·
  obtain rfl : v2 = false := by simpa using g0
  refine Mach.ok_ite (fun g1 => ?_) (fun g1 => ?_)
  ·
   refine Mach.ok_ite (fun g2 => ?_) (fun g2 => ?_)
   ·
    refine Mach.ok_ite (fun g3 => ?_) (fun g3 => ?_)
    ·
     refine Mach.ok_ite (fun g4 => ?_) (fun g4 => ?_)
     ·
      exact Mach.ok_next (M := Z9 L0 a1 a2 a3 a4 a5 a6 L7 a8 N) (cd := 1000000) (cm := 0) (y := (.h1m0 (false) ((v3 + (1 : Int))) : Z4)) (fu := 4000) (orc := (Zm [(0, true), (1, true)] [(0, (v3 - (1 : Int))), (1, (v3 + (1 : Int)))] [(0, ((v3 - (1 : Int))).toNat)] [(2, [.i (L0.getD ((v3 - (1 : Int))).toNat RB.z).a0, .i (L0.getD ((v3 - (1 : Int))).toNat RB.z).a1, .i (L0.getD ((v3 - (1 : Int))).toNat RB.z).a2, .i (L0.getD ((v3 - (1 : Int))).toNat RB.z).a3, .i (L0.getD ((v3 - (1 : Int))).toNat RB.z).a4, .i (L0.getD ((v3 - (1 : Int))).toNat RB.z).a5])] [])) (live := [0, 1]) (tv := fun _ => [some (vp 0 0), some (vp 1 0), some (vi (L0.getD ((a5 - (1 : Int))).toNat RB.z).a5), some (vq), some (vf), some (vi (v3 + (1 : Int)))]) (bl := [some (.cells [ms E_iiiiii L0] 22), some (.cells [vi a1, vi a2, vi a3, vi a4, vi a5, vi a6, ms E_ii L7, vi a8] 31)]) (ob := [((IntKind.i64.wrap (v3 + (1 : Int))) == (v3 + (1 : Int)), true), (((L0.getD ((v3 - (1 : Int))).toNat RB.z).a1 != a2), true), (dP (ZV (code (Z6 E_iiiiii L0)) (0 + (((v3 - (1 : Int))).toNat * 6)) 6 = some [.i (L0.getD ((v3 - (1 : Int))).toNat RB.z).a0, .i (L0.getD ((v3 - (1 : Int))).toNat RB.z).a1, .i (L0.getD ((v3 - (1 : Int))).toNat RB.z).a2, .i (L0.getD ((v3 - (1 : Int))).toNat RB.z).a3, .i (L0.getD ((v3 - (1 : Int))).toNat RB.z).a4, .i (L0.getD ((v3 - (1 : Int))).toNat RB.z).a5]), true), (Nat.blt ((v3 - (1 : Int))).toNat L0.length, true), ((v3 - (1 : Int)) == Int.ofNat ((v3 - (1 : Int))).toNat, true), ((IntKind.i64.wrap (v3 - (1 : Int))) == (v3 - (1 : Int)), true), ((decide (v3 ≤ (L0.length : Int))), true)]) rfl (show 1 ∈ Zl (Zcu 1) from by decide +kernel) (fun gv => by kernel_rfl) (Zb (beq_iff_eq.2 ((wrap_i64 ltA).trans (by first | rfl | omega))) <| oD <| Zb (Zw (ZJ (E := E_iiiiii) (L := L0) (i := ((v3 - (1 : Int))).toNat) (q := 0) (by omega) (show (0 + (((v3 - (1 : Int))).toNat * 6)) = ((v3 - (1 : Int))).toNat * 6 + 0 from by omega) (show 0 + 6 ≤ 6 from by decide) rfl)) <| oB <| oI <| Zb (beq_iff_eq.2 ((wrap_i64 ltA).trans (by first | rfl | omega))) <| oY Zf) rfl (by decide) (by rfl) (fun _ => ⟨rr, ⟨rr, ⟨rr, ⟨rr, ⟨rr, ⟨rr, trivial⟩⟩⟩⟩⟩⟩) ⟨⟨rfl, ⟨[], by rfl⟩, by rfl⟩, ⟨⟨rfl, ⟨[], by rfl⟩, by rfl⟩, trivial⟩⟩
     ·
      refine Mach.ok_ite (fun g5 => ?_) (fun g5 => ?_)
      ·
       exact Mach.ok_fin (M := Z9 L0 a1 a2 a3 a4 a5 a6 L7 a8 N) (cd := 1000000) (cm := 0) (r := (.r0 ((0 : Int)) (false) : Zz)) (fu := 4000) (orc := (Zm [(0, true), (1, false), (2, true)] [(0, (v3 - (1 : Int)))] [(0, ((v3 - (1 : Int))).toNat)] [(2, [.i (L0.getD ((v3 - (1 : Int))).toNat RB.z).a0, .i (L0.getD ((v3 - (1 : Int))).toNat RB.z).a1, .i (L0.getD ((v3 - (1 : Int))).toNat RB.z).a2, .i (L0.getD ((v3 - (1 : Int))).toNat RB.z).a3, .i (L0.getD ((v3 - (1 : Int))).toNat RB.z).a4, .i (L0.getD ((v3 - (1 : Int))).toNat RB.z).a5])] [])) (live := []) (u := Value.tuple #[vq, vf]) (bl := []) (ob := [(((L0.getD ((v3 - (1 : Int))).toNat RB.z).a5 != (L0.getD ((a5 - (1 : Int))).toNat RB.z).a5), true), (((L0.getD ((v3 - (1 : Int))).toNat RB.z).a1 != a2), false), (dP (ZV (code (Z6 E_iiiiii L0)) (0 + (((v3 - (1 : Int))).toNat * 6)) 6 = some [.i (L0.getD ((v3 - (1 : Int))).toNat RB.z).a0, .i (L0.getD ((v3 - (1 : Int))).toNat RB.z).a1, .i (L0.getD ((v3 - (1 : Int))).toNat RB.z).a2, .i (L0.getD ((v3 - (1 : Int))).toNat RB.z).a3, .i (L0.getD ((v3 - (1 : Int))).toNat RB.z).a4, .i (L0.getD ((v3 - (1 : Int))).toNat RB.z).a5]), true), (Nat.blt ((v3 - (1 : Int))).toNat L0.length, true), ((v3 - (1 : Int)) == Int.ofNat ((v3 - (1 : Int))).toNat, true), ((IntKind.i64.wrap (v3 - (1 : Int))) == (v3 - (1 : Int)), true), ((decide (v3 ≤ (L0.length : Int))), true)]) (fun gv => by kernel_rfl) (oD <| oE <| Zb (Zw (ZJ (E := E_iiiiii) (L := L0) (i := ((v3 - (1 : Int))).toNat) (q := 0) (by omega) (show (0 + (((v3 - (1 : Int))).toNat * 6)) = ((v3 - (1 : Int))).toNat * 6 + 0 from by omega) (show 0 + 6 ≤ 6 from by decide) rfl)) <| oB <| oI <| Zb (beq_iff_eq.2 ((wrap_i64 ltA).trans (by first | rfl | omega))) <| oY Zf) rfl (by decide) (by rfl) rr trivial
      ·
       refine Mach.ok_ite (fun g6 => ?_) (fun g6 => ?_)
       ·
        exact Mach.ok_next (M := Z9 L0 a1 a2 a3 a4 a5 a6 L7 a8 N) (cd := 1000000) (cm := 0) (y := (.h1m0 (true) ((v3 + (1 : Int))) : Z4)) (fu := 4000) (orc := (Zm [(0, true), (1, false), (2, false), (3, true)] [(0, (v3 - (1 : Int))), (1, (v3 + (1 : Int)))] [(0, ((v3 - (1 : Int))).toNat)] [(2, [.i (L0.getD ((v3 - (1 : Int))).toNat RB.z).a0, .i (L0.getD ((v3 - (1 : Int))).toNat RB.z).a1, .i (L0.getD ((v3 - (1 : Int))).toNat RB.z).a2, .i (L0.getD ((v3 - (1 : Int))).toNat RB.z).a3, .i (L0.getD ((v3 - (1 : Int))).toNat RB.z).a4, .i (L0.getD ((v3 - (1 : Int))).toNat RB.z).a5])] [])) (live := [0, 1]) (tv := fun _ => [some (vp 0 0), some (vp 1 0), some (vi (L0.getD ((a5 - (1 : Int))).toNat RB.z).a5), some (vq), some (vT), some (vi (v3 + (1 : Int)))]) (bl := [some (.cells [ms E_iiiiii L0] 22), some (.cells [vi a1, vi a2, vi a3, vi a4, vi a5, vi a6, ms E_ii L7, vi a8] 31)]) (ob := [((IntKind.i64.wrap (v3 + (1 : Int))) == (v3 + (1 : Int)), true), (((L0.getD ((v3 - (1 : Int))).toNat RB.z).a0 == (7 : Int)), true), (((L0.getD ((v3 - (1 : Int))).toNat RB.z).a5 != (L0.getD ((a5 - (1 : Int))).toNat RB.z).a5), false), (((L0.getD ((v3 - (1 : Int))).toNat RB.z).a1 != a2), false), (dP (ZV (code (Z6 E_iiiiii L0)) (0 + (((v3 - (1 : Int))).toNat * 6)) 6 = some [.i (L0.getD ((v3 - (1 : Int))).toNat RB.z).a0, .i (L0.getD ((v3 - (1 : Int))).toNat RB.z).a1, .i (L0.getD ((v3 - (1 : Int))).toNat RB.z).a2, .i (L0.getD ((v3 - (1 : Int))).toNat RB.z).a3, .i (L0.getD ((v3 - (1 : Int))).toNat RB.z).a4, .i (L0.getD ((v3 - (1 : Int))).toNat RB.z).a5]), true), (Nat.blt ((v3 - (1 : Int))).toNat L0.length, true), ((v3 - (1 : Int)) == Int.ofNat ((v3 - (1 : Int))).toNat, true), ((IntKind.i64.wrap (v3 - (1 : Int))) == (v3 - (1 : Int)), true), ((decide (v3 ≤ (L0.length : Int))), true)]) rfl (show 1 ∈ Zl (Zcu 1) from by decide +kernel) (fun gv => by kernel_rfl) (Zb (beq_iff_eq.2 ((wrap_i64 ltA).trans (by first | rfl | omega))) <| oT <| oE <| oE <| Zb (Zw (ZJ (E := E_iiiiii) (L := L0) (i := ((v3 - (1 : Int))).toNat) (q := 0) (by omega) (show (0 + (((v3 - (1 : Int))).toNat * 6)) = ((v3 - (1 : Int))).toNat * 6 + 0 from by omega) (show 0 + 6 ≤ 6 from by decide) rfl)) <| oB <| oI <| Zb (beq_iff_eq.2 ((wrap_i64 ltA).trans (by first | rfl | omega))) <| oY Zf) rfl (by decide) (by rfl) (fun _ => ⟨rr, ⟨rr, ⟨rr, ⟨rr, ⟨rr, ⟨rr, trivial⟩⟩⟩⟩⟩⟩) ⟨⟨rfl, ⟨[], by rfl⟩, by rfl⟩, ⟨⟨rfl, ⟨[], by rfl⟩, by rfl⟩, trivial⟩⟩
       ·
        exact Mach.ok_next (M := Z9 L0 a1 a2 a3 a4 a5 a6 L7 a8 N) (cd := 1000000) (cm := 0) (y := (.h1m0 (false) ((v3 + (1 : Int))) : Z4)) (fu := 4000) (orc := (Zm [(0, true), (1, false), (2, false), (3, false)] [(0, (v3 - (1 : Int))), (1, (v3 + (1 : Int)))] [(0, ((v3 - (1 : Int))).toNat)] [(2, [.i (L0.getD ((v3 - (1 : Int))).toNat RB.z).a0, .i (L0.getD ((v3 - (1 : Int))).toNat RB.z).a1, .i (L0.getD ((v3 - (1 : Int))).toNat RB.z).a2, .i (L0.getD ((v3 - (1 : Int))).toNat RB.z).a3, .i (L0.getD ((v3 - (1 : Int))).toNat RB.z).a4, .i (L0.getD ((v3 - (1 : Int))).toNat RB.z).a5])] [])) (live := [0, 1]) (tv := fun _ => [some (vp 0 0), some (vp 1 0), some (vi (L0.getD ((a5 - (1 : Int))).toNat RB.z).a5), some (vq), some (vf), some (vi (v3 + (1 : Int)))]) (bl := [some (.cells [ms E_iiiiii L0] 22), some (.cells [vi a1, vi a2, vi a3, vi a4, vi a5, vi a6, ms E_ii L7, vi a8] 31)]) (ob := [((IntKind.i64.wrap (v3 + (1 : Int))) == (v3 + (1 : Int)), true), (((L0.getD ((v3 - (1 : Int))).toNat RB.z).a0 == (7 : Int)), false), (((L0.getD ((v3 - (1 : Int))).toNat RB.z).a5 != (L0.getD ((a5 - (1 : Int))).toNat RB.z).a5), false), (((L0.getD ((v3 - (1 : Int))).toNat RB.z).a1 != a2), false), (dP (ZV (code (Z6 E_iiiiii L0)) (0 + (((v3 - (1 : Int))).toNat * 6)) 6 = some [.i (L0.getD ((v3 - (1 : Int))).toNat RB.z).a0, .i (L0.getD ((v3 - (1 : Int))).toNat RB.z).a1, .i (L0.getD ((v3 - (1 : Int))).toNat RB.z).a2, .i (L0.getD ((v3 - (1 : Int))).toNat RB.z).a3, .i (L0.getD ((v3 - (1 : Int))).toNat RB.z).a4, .i (L0.getD ((v3 - (1 : Int))).toNat RB.z).a5]), true), (Nat.blt ((v3 - (1 : Int))).toNat L0.length, true), ((v3 - (1 : Int)) == Int.ofNat ((v3 - (1 : Int))).toNat, true), ((IntKind.i64.wrap (v3 - (1 : Int))) == (v3 - (1 : Int)), true), ((decide (v3 ≤ (L0.length : Int))), true)]) rfl (show 1 ∈ Zl (Zcu 1) from by decide +kernel) (fun gv => by kernel_rfl) (Zb (beq_iff_eq.2 ((wrap_i64 ltA).trans (by first | rfl | omega))) <| oF <| oE <| oE <| Zb (Zw (ZJ (E := E_iiiiii) (L := L0) (i := ((v3 - (1 : Int))).toNat) (q := 0) (by omega) (show (0 + (((v3 - (1 : Int))).toNat * 6)) = ((v3 - (1 : Int))).toNat * 6 + 0 from by omega) (show 0 + 6 ≤ 6 from by decide) rfl)) <| oB <| oI <| Zb (beq_iff_eq.2 ((wrap_i64 ltA).trans (by first | rfl | omega))) <| oY Zf) rfl (by decide) (by rfl) (fun _ => ⟨rr, ⟨rr, ⟨rr, ⟨rr, ⟨rr, ⟨rr, trivial⟩⟩⟩⟩⟩⟩) ⟨⟨rfl, ⟨[], by rfl⟩, by rfl⟩, ⟨⟨rfl, ⟨[], by rfl⟩, by rfl⟩, trivial⟩⟩
    ·
     exact Mach.ok_fin (M := Z9 L0 a1 a2 a3 a4 a5 a6 L7 a8 N) (cd := 1000000) (cm := 0) (r := (.r0 ((0 : Int)) (false) : Zz)) (fu := 4000) (orc := (Zm [(0, false)] [] [] [] [])) (live := []) (u := Value.tuple #[vq, vf]) (bl := []) (ob := [((decide (v3 ≤ (L0.length : Int))), false)]) (fun gv => by kernel_rfl) (oN Zf) rfl (by decide) (by rfl) rr trivial
   ·
    exact Mach.ok_none
  ·
   exact Mach.ok_none

theorem Zit (L0 : List RB) (a1 a2 a3 a4 a5 a6 : Int) (L7 : List R_ii) (a8 : Int) (N : Nat) : (Z9 L0 a1 a2 a3 a4 a5 a6 L7 a8 N).Enter Tryz.prog Zx #[ms E_iiiiii L0, Value.agg #[vi a1, vi a2, vi a3, vi a4, vi a5, vi a6, ms E_ii L7, vi a8]] (Zay L0 a1 a2 a3 a4 a5 a6 L7 a8 N) := by
 unfold Zay
 refine Mach.en_ite (fun g0 => ?_) (fun g0 => ?_)
 ·
  refine Mach.en_ite (fun g1 => ?_) (fun g1 => ?_)
  ·
   exact Mach.en_fin (M := Z9 L0 a1 a2 a3 a4 a5 a6 L7 a8 N) (cd := 1000000) (cm := 0) (r := (.r0 ((0 : Int)) (false) : Zz)) (fu := 4000) (orc := (Zm [(0, true)] [] [] [] [])) (live := []) (u := Value.tuple #[vq, vf]) (bl := []) (ob := [((a1 != (2 : Int)), true)]) (by kernel_rfl) (oD Zf) rfl (by decide) (by rfl) rr trivial
  ·
   refine Mach.en_ite (fun g2 => ?_) (fun g2 => ?_)
   ·
    refine Mach.en_ite (fun g3 => ?_) (fun g3 => ?_)
    ·
     refine Mach.en_ite (fun g4 => ?_) (fun g4 => ?_)
     ·
      refine Mach.en_ite (fun g5 => ?_) (fun g5 => ?_)
      ·
       exact Mach.en_head (bK := ZbF 1) (M := Z9 L0 a1 a2 a3 a4 a5 a6 L7 a8 N) (cd := 1000000) (cm := 0) (y := (.h1m0 (false) ((a6 + (1 : Int))) : Z4)) (fu := 4000) (orc := (Zm [(0, false), (1, true), (2, true), (4, true), (5, true)] [(0, (a5 - (1 : Int))), (1, (a6 + (1 : Int)))] [(0, ((a5 - (1 : Int))).toNat)] [(7, [.i (L0.getD ((a5 - (1 : Int))).toNat RB.z).a5])] [])) (live := [0, 1]) (tv := [some (vp 0 0), some (vp 1 0), some (vi (L0.getD ((a5 - (1 : Int))).toNat RB.z).a5), some (vq), some (vf), some (vi (a6 + (1 : Int)))]) (bl := [some (.cells [ms E_iiiiii L0] 22), some (.cells [vi a1, vi a2, vi a3, vi a4, vi a5, vi a6, ms E_ii L7, vi a8] 31)]) (ob := [((IntKind.i64.wrap (a6 + (1 : Int))) == (a6 + (1 : Int)), true), (dP (ZV (code (Z6 E_iiiiii L0)) ((0 + (((a5 - (1 : Int))).toNat * 6)) + 5) 1 = some [.i (L0.getD ((a5 - (1 : Int))).toNat RB.z).a5]), true), (Nat.blt ((a5 - (1 : Int))).toNat L0.length, true), ((a5 - (1 : Int)) == Int.ofNat ((a5 - (1 : Int))).toNat, true), ((IntKind.i64.wrap (a5 - (1 : Int))) == (a5 - (1 : Int)), true), ((decide (a6 ≤ (L0.length : Int))), true), ((decide (a6 ≥ (1 : Int))), true), ((decide (a5 ≤ (L0.length : Int))), true), ((decide (a5 ≥ (1 : Int))), true), ((a1 != (2 : Int)), false)]) rfl rfl (show Zl (ZbF 1).2 = [] from rfl) (by kernel_rfl) (Zb (beq_iff_eq.2 ((wrap_i64 ltA).trans (by first | rfl | omega))) <| Zb (Zw (ZJ (E := E_iiiiii) (L := L0) (i := ((a5 - (1 : Int))).toNat) (q := 5) (by omega) (show ((0 + (((a5 - (1 : Int))).toNat * 6)) + 5) = ((a5 - (1 : Int))).toNat * 6 + 5 from by omega) (show 5 + 1 ≤ 6 from by decide) rfl)) <| oB <| oI <| Zb (beq_iff_eq.2 ((wrap_i64 ltA).trans (by first | rfl | omega))) <| oY <| oY <| oY <| oY <| oE Zf) rfl (by decide) (by rfl) ⟨rr, ⟨rr, ⟨rr, ⟨rr, ⟨rr, ⟨rr, trivial⟩⟩⟩⟩⟩⟩ ⟨⟨rfl, ⟨[], by rfl⟩, by rfl⟩, ⟨⟨rfl, ⟨[], by rfl⟩, by rfl⟩, trivial⟩⟩
      ·
       exact Mach.en_fin (M := Z9 L0 a1 a2 a3 a4 a5 a6 L7 a8 N) (cd := 1000000) (cm := 0) (r := (.r0 ((0 : Int)) (false) : Zz)) (fu := 4000) (orc := (Zm [(0, false), (1, true), (2, true), (4, true), (5, false)] [] [] [] [])) (live := []) (u := Value.tuple #[vq, vf]) (bl := []) (ob := [((decide (a6 ≤ (L0.length : Int))), false), ((decide (a6 ≥ (1 : Int))), true), ((decide (a5 ≤ (L0.length : Int))), true), ((decide (a5 ≥ (1 : Int))), true), ((a1 != (2 : Int)), false)]) (by kernel_rfl) (oN <| oY <| oY <| oY <| oE Zf) rfl (by decide) (by rfl) rr trivial
     ·
      exact Mach.en_fin (M := Z9 L0 a1 a2 a3 a4 a5 a6 L7 a8 N) (cd := 1000000) (cm := 0) (r := (.r0 ((0 : Int)) (false) : Zz)) (fu := 4000) (orc := (Zm [(0, false), (1, true), (2, true), (4, false)] [] [] [] [])) (live := []) (u := Value.tuple #[vq, vf]) (bl := []) (ob := [((decide (a6 ≥ (1 : Int))), false), ((decide (a5 ≤ (L0.length : Int))), true), ((decide (a5 ≥ (1 : Int))), true), ((a1 != (2 : Int)), false)]) (by kernel_rfl) (oN <| oY <| oY <| oE Zf) rfl (by decide) (by rfl) rr trivial
    ·
     exact Mach.en_fin (M := Z9 L0 a1 a2 a3 a4 a5 a6 L7 a8 N) (cd := 1000000) (cm := 0) (r := (.r0 ((0 : Int)) (false) : Zz)) (fu := 4000) (orc := (Zm [(0, false), (1, true), (2, false)] [] [] [] [])) (live := []) (u := Value.tuple #[vq, vf]) (bl := []) (ob := [((decide (a5 ≤ (L0.length : Int))), false), ((decide (a5 ≥ (1 : Int))), true), ((a1 != (2 : Int)), false)]) (by kernel_rfl) (oN <| oY <| oE Zf) rfl (by decide) (by rfl) rr trivial
   ·
    exact Mach.en_fin (M := Z9 L0 a1 a2 a3 a4 a5 a6 L7 a8 N) (cd := 1000000) (cm := 0) (r := (.r0 ((0 : Int)) (false) : Zz)) (fu := 4000) (orc := (Zm [(0, false), (1, false)] [] [] [] [])) (live := []) (u := Value.tuple #[vq, vf]) (bl := []) (ob := [((decide (a5 ≥ (1 : Int))), false), ((a1 != (2 : Int)), false)]) (by kernel_rfl) (oN <| oE Zf) rfl (by decide) (by rfl) rr trivial
 ·
  exact Mach.en_none

theorem Zhk (L0 : List RB) (a1 a2 a3 a4 a5 a6 : Int) (L7 : List R_ii) (a8 : Int) (N : Nat) (r : Zz) (h : Zbq L0 a1 a2 a3 a4 a5 a6 L7 a8 N = some r) : LSpec Tryz.prog 5 #[ms E_iiiiii L0, Value.agg #[vi a1, vi a2, vi a3, vi a4, vi a5, vi a6, ms E_ii L7, vi a8]] [] (ZfH L0 a1 a2 a3 a4 a5 a6 L7 a8 r) (Zfa L0 a1 a2 a3 a4 a5 a6 L7 a8 r) :=
 Mach.spec ZcN (Z9 L0 a1 a2 a3 a4 a5 a6 L7 a8 N) Tryz.func5 (by kernel_rfl) (by kernel_rfl) (fun x => by cases x <;> exact ZaQ _ rfl) (fun r => by cases r <;> exact ZaQ _ rfl) (fun x => by
  cases x with
  | h1m0 _ _ => exact fun _ => (show ¬ (1 ∈ Zl (ZbF 1).2) from by decide +kernel)
  ) (fun x => (show (Z9 L0 a1 a2 a3 a4 a5 a6 L7 a8 N).Ok Tryz.prog Zx x (ZaM L0 a1 a2 a3 a4 a5 a6 L7 a8 N x) from by
  cases x with
  | h1m0 v2 v3 => exact Zg1 L0 a1 a2 a3 a4 a5 a6 L7 a8 v2 v3 N
  )) (Zit L0 a1 a2 a3 a4 a5 a6 L7 a8 N) (n := N) h

noncomputable def Zbh (L0 : List RB) (a1 a2 a3 a4 a5 a6 : Int) (L7 : List R_ii) (a8 w0 : Int) (w1 : Bool) (n : Nat) : Zcn := .call [] (Value.tuple #[vi w0, Value.bool w1]) [] 0
def ZaO (A : Array Value) (L0 : List RB) (a1 a2 a3 a4 a5 a6 : Int) (L7 : List R_ii) (a8 w0 : Int) (w1 : Bool) (n : Nat) : Prop := Zam Tryz.prog 5 A [] (Value.tuple #[vi w0, Value.bool w1]) [] n 0

theorem Zbi (A : Array Value) (L0 : List RB) (a1 a2 a3 a4 a5 a6 : Int) (L7 : List R_ii) (a8 w0 : Int) (w1 : Bool) (N : Nat) (h : Zbq L0 a1 a2 a3 a4 a5 a6 L7 a8 N = some (.r0 w0 w1)) (n : Nat) (hA : A = #[ms E_iiiiii L0, Value.agg #[vi a1, vi a2, vi a3, vi a4, vi a5, vi a6, ms E_ii L7, vi a8]]) (hnd : ([] : List Nat).Nodup) (hlt : ∀ k ∈ ([] : List Nat), k < n) : ZaO A L0 a1 a2 a3 a4 a5 a6 L7 a8 w0 w1  n :=
 Zb5 hA (LSpec.callL (show LSpec Tryz.prog 5 #[ms E_iiiiii L0, Value.agg #[vi a1, vi a2, vi a3, vi a4, vi a5, vi a6, ms E_ii L7, vi a8]] [] (Value.tuple #[vi w0, Value.bool w1]) [] from Zhk L0 a1 a2 a3 a4 a5 a6 L7 a8 N _ h) [] n [] rfl hnd hlt (show 0 ≤ 0 from by decide) (show ∀ j ∈ ([] : List Nat), j < 0 from by decide) (by rfl) trivial (by rfl) trivial trivial rfl rfl rfl rfl rfl)

noncomputable def Zgy (L0 : List RB) (a1 a2 a3 a4 a5 a6 : Int) (L7 : List R_ii) (a8 : Int) : Z1 → Value
 | .r0 w0 w1 => Value.tuple #[vi w0, Value.bool w1]
noncomputable def ZfI (L0 : List RB) (a1 a2 a3 a4 a5 a6 : Int) (L7 : List R_ii) (a8 : Int) : Z1 → List (Option AObj)
 | .r0 w0 w1 => []

def Zjw : Z7 → Nat
 | .h1m0 v2 v3 => 1
noncomputable def Zka (L0 : List RB) (a1 a2 a3 a4 a5 a6 : Int) (L7 : List R_ii) (a8 : Int) : Z7 → List (Nat × Value)
 | .h1m0 v2 v3 => [(0, ms E_iiiiii L0), (3, vp 0 0), (6, vi (L0.getD ((a5 - (1 : Int))).toNat RB.z).a5), (7, Value.bool v2), (8, vi v3)]
noncomputable def Zkb (L0 : List RB) (a1 a2 a3 a4 a5 a6 : Int) (L7 : List R_ii) (a8 : Int) : Z7 → List (Option AObj)
 | .h1m0 v2 v3 => [some (.cells [vi a1, vi a2, vi a3, vi a4, vi a5, vi a6, ms E_ii L7, vi a8] 31)]

noncomputable def ZbU : Nat → Code × List Zaw
 | 1 => ZaP [1, 1, 1, 1, 0, 1, 3] (Zb9 Tryz.f6) []
 | _ => (.skip, [])
def ZfJ : Nat → Bool
 | 1 => true
 | _ => true
noncomputable def Zc7 (i : Nat) : List Zaw := match ZfJ i with | true => .rnd i :: (ZbU i).2 | false => (ZbU i).2

noncomputable def ZC (L0 : List RB) (a1 a2 a3 a4 a5 a6 : Int) (L7 : List R_ii) (a8 : Int) (N : Nat) : Mach := ⟨Tryz.f6, [], Z7, Z1, ZaX L0 a1 a2 a3 a4 a5 a6 L7 a8 N, Zjw, ZbU, ZfJ, Zka L0 a1 a2 a3 a4 a5 a6 L7 a8, Zkb L0 a1 a2 a3 a4 a5 a6 L7 a8, Zgy L0 a1 a2 a3 a4 a5 a6 L7 a8, ZfI L0 a1 a2 a3 a4 a5 a6 L7 a8⟩

theorem Zhl (L0 : List RB) (a1 a2 a3 a4 a5 a6 : Int) (L7 : List R_ii) (a8 : Int) (v2 : Bool) (v3 : Int) (N : Nat) : (ZC L0 a1 a2 a3 a4 a5 a6 L7 a8 N).Ok Tryz.prog Zx (.h1m0 v2 v3 : Z7) (ZaX L0 a1 a2 a3 a4 a5 a6 L7 a8 N (.h1m0 v2 v3 : Z7)) := by
 show (ZC L0 a1 a2 a3 a4 a5 a6 L7 a8 N).Ok Tryz.prog Zx (.h1m0 v2 v3 : Z7) (ZN L0 a1 a2 a3 a4 a5 a6 L7 a8 N v2 v3)
 unfold ZN
 refine Mach.ok_ite (fun g0 => ?_) (fun g0 => ?_)
 ·
  subst g0
  refine Mach.ok_ite (fun g1 => ?_) (fun g1 => ?_)
  ·
   refine Mach.ok_ite (fun g2 => ?_) (fun g2 => ?_)
   ·
    refine Mach.ok_ite (fun g3 => ?_) (fun g3 => ?_)
    ·
     refine Mach.ok_ite (fun g4 => ?_) (fun g4 => ?_)
     ·
      exact Mach.ok_next (M := ZC L0 a1 a2 a3 a4 a5 a6 L7 a8 N) (cd := 1000000) (cm := 0) (y := (.h1m0 (true) ((v3 + (1 : Int))) : Z7)) (fu := 4000) (orc := (Zm [(0, true), (1, true)] [(0, (v3 + (1 : Int)))] [(0, (v3).toNat)] [(0, [.i (L0.getD (v3).toNat RB.z).a0, .i (L0.getD (v3).toNat RB.z).a1, .i (L0.getD (v3).toNat RB.z).a2, .i (L0.getD (v3).toNat RB.z).a3, .i (L0.getD (v3).toNat RB.z).a4, .i (L0.getD (v3).toNat RB.z).a5])] [])) (live := [0]) (tv := fun _ => [some (ms E_iiiiii L0), some (vp 0 0), some (vi (L0.getD ((a5 - (1 : Int))).toNat RB.z).a5), some (vT), some (vi (v3 + (1 : Int)))]) (bl := [some (.cells [vi a1, vi a2, vi a3, vi a4, vi a5, vi a6, ms E_ii L7, vi a8] 31)]) (ob := [((IntKind.i64.wrap (v3 + (1 : Int))) == (v3 + (1 : Int)), true), (((L0.getD (v3).toNat RB.z).a1 != a2), true), (dP (ZV (code (Z6 E_iiiiii L0)) (0 + ((v3).toNat * 6)) 6 = some [.i (L0.getD (v3).toNat RB.z).a0, .i (L0.getD (v3).toNat RB.z).a1, .i (L0.getD (v3).toNat RB.z).a2, .i (L0.getD (v3).toNat RB.z).a3, .i (L0.getD (v3).toNat RB.z).a4, .i (L0.getD (v3).toNat RB.z).a5]), true), (Nat.blt (v3).toNat L0.length, true), (v3 == Int.ofNat (v3).toNat, true), ((decide (v3 < (L0.length : Int))), true)]) rfl (show 1 ∈ Zl (Zc7 1) from by decide +kernel) (fun gv => by kernel_rfl) (Zb (beq_iff_eq.2 ((wrap_i64 ltA).trans (by first | rfl | omega))) <| oD <| Zb (Zw (ZJ (E := E_iiiiii) (L := L0) (i := (v3).toNat) (q := 0) (by omega) (show (0 + ((v3).toNat * 6)) = (v3).toNat * 6 + 0 from by omega) (show 0 + 6 ≤ 6 from by decide) rfl)) <| oB <| oI <| oY Zf) rfl (by decide) (by rfl) (fun _ => ⟨rr, ⟨rr, ⟨rr, ⟨rr, ⟨rr, trivial⟩⟩⟩⟩⟩) ⟨⟨rfl, ⟨[], by rfl⟩, by rfl⟩, trivial⟩
     ·
      refine Mach.ok_ite (fun g5 => ?_) (fun g5 => ?_)
      ·
       exact Mach.ok_fin (M := ZC L0 a1 a2 a3 a4 a5 a6 L7 a8 N) (cd := 1000000) (cm := 0) (r := (.r0 ((v3 + (1 : Int))) (true) : Z1)) (fu := 4000) (orc := (Zm [(0, true), (1, false), (2, true)] [(0, (v3 + (1 : Int)))] [(0, (v3).toNat)] [(0, [.i (L0.getD (v3).toNat RB.z).a0, .i (L0.getD (v3).toNat RB.z).a1, .i (L0.getD (v3).toNat RB.z).a2, .i (L0.getD (v3).toNat RB.z).a3, .i (L0.getD (v3).toNat RB.z).a4, .i (L0.getD (v3).toNat RB.z).a5])] [])) (live := []) (u := Value.tuple #[vi (v3 + (1 : Int)), vT]) (bl := []) (ob := [((IntKind.i64.wrap (v3 + (1 : Int))) == (v3 + (1 : Int)), true), (((L0.getD (v3).toNat RB.z).a5 != (L0.getD ((a5 - (1 : Int))).toNat RB.z).a5), true), (((L0.getD (v3).toNat RB.z).a1 != a2), false), (dP (ZV (code (Z6 E_iiiiii L0)) (0 + ((v3).toNat * 6)) 6 = some [.i (L0.getD (v3).toNat RB.z).a0, .i (L0.getD (v3).toNat RB.z).a1, .i (L0.getD (v3).toNat RB.z).a2, .i (L0.getD (v3).toNat RB.z).a3, .i (L0.getD (v3).toNat RB.z).a4, .i (L0.getD (v3).toNat RB.z).a5]), true), (Nat.blt (v3).toNat L0.length, true), (v3 == Int.ofNat (v3).toNat, true), ((decide (v3 < (L0.length : Int))), true)]) (fun gv => by kernel_rfl) (Zb (beq_iff_eq.2 ((wrap_i64 ltA).trans (by first | rfl | omega))) <| oD <| oE <| Zb (Zw (ZJ (E := E_iiiiii) (L := L0) (i := (v3).toNat) (q := 0) (by omega) (show (0 + ((v3).toNat * 6)) = (v3).toNat * 6 + 0 from by omega) (show 0 + 6 ≤ 6 from by decide) rfl)) <| oB <| oI <| oY Zf) rfl (by decide) (by rfl) rr trivial
      ·
       exact Mach.ok_next (M := ZC L0 a1 a2 a3 a4 a5 a6 L7 a8 N) (cd := 1000000) (cm := 0) (y := (.h1m0 (true) ((v3 + (1 : Int))) : Z7)) (fu := 4000) (orc := (Zm [(0, true), (1, false), (2, false)] [(0, (v3 + (1 : Int)))] [(0, (v3).toNat)] [(0, [.i (L0.getD (v3).toNat RB.z).a0, .i (L0.getD (v3).toNat RB.z).a1, .i (L0.getD (v3).toNat RB.z).a2, .i (L0.getD (v3).toNat RB.z).a3, .i (L0.getD (v3).toNat RB.z).a4, .i (L0.getD (v3).toNat RB.z).a5])] [])) (live := [0]) (tv := fun _ => [some (ms E_iiiiii L0), some (vp 0 0), some (vi (L0.getD ((a5 - (1 : Int))).toNat RB.z).a5), some (vT), some (vi (v3 + (1 : Int)))]) (bl := [some (.cells [vi a1, vi a2, vi a3, vi a4, vi a5, vi a6, ms E_ii L7, vi a8] 31)]) (ob := [((IntKind.i64.wrap (v3 + (1 : Int))) == (v3 + (1 : Int)), true), (((L0.getD (v3).toNat RB.z).a5 != (L0.getD ((a5 - (1 : Int))).toNat RB.z).a5), false), (((L0.getD (v3).toNat RB.z).a1 != a2), false), (dP (ZV (code (Z6 E_iiiiii L0)) (0 + ((v3).toNat * 6)) 6 = some [.i (L0.getD (v3).toNat RB.z).a0, .i (L0.getD (v3).toNat RB.z).a1, .i (L0.getD (v3).toNat RB.z).a2, .i (L0.getD (v3).toNat RB.z).a3, .i (L0.getD (v3).toNat RB.z).a4, .i (L0.getD (v3).toNat RB.z).a5]), true), (Nat.blt (v3).toNat L0.length, true), (v3 == Int.ofNat (v3).toNat, true), ((decide (v3 < (L0.length : Int))), true)]) rfl (show 1 ∈ Zl (Zc7 1) from by decide +kernel) (fun gv => by kernel_rfl) (Zb (beq_iff_eq.2 ((wrap_i64 ltA).trans (by first | rfl | omega))) <| oE <| oE <| Zb (Zw (ZJ (E := E_iiiiii) (L := L0) (i := (v3).toNat) (q := 0) (by omega) (show (0 + ((v3).toNat * 6)) = (v3).toNat * 6 + 0 from by omega) (show 0 + 6 ≤ 6 from by decide) rfl)) <| oB <| oI <| oY Zf) rfl (by decide) (by rfl) (fun _ => ⟨rr, ⟨rr, ⟨rr, ⟨rr, ⟨rr, trivial⟩⟩⟩⟩⟩) ⟨⟨rfl, ⟨[], by rfl⟩, by rfl⟩, trivial⟩
    ·
     exact Mach.ok_fin (M := ZC L0 a1 a2 a3 a4 a5 a6 L7 a8 N) (cd := 1000000) (cm := 0) (r := (.r0 ((0 : Int)) (false) : Z1)) (fu := 4000) (orc := (Zm [(0, false)] [] [] [] [])) (live := []) (u := Value.tuple #[vq, vf]) (bl := []) (ob := [((decide (v3 < (L0.length : Int))), false)]) (fun gv => by kernel_rfl) (oN Zf) rfl (by decide) (by rfl) rr trivial
   ·
    exact Mach.ok_none
  ·
   exact Mach.ok_none
 ·
  obtain rfl : v2 = false := by simpa using g0
  refine Mach.ok_ite (fun g1 => ?_) (fun g1 => ?_)
  ·
   refine Mach.ok_ite (fun g2 => ?_) (fun g2 => ?_)
   ·
    refine Mach.ok_ite (fun g3 => ?_) (fun g3 => ?_)
    ·
     refine Mach.ok_ite (fun g4 => ?_) (fun g4 => ?_)
     ·
      exact Mach.ok_next (M := ZC L0 a1 a2 a3 a4 a5 a6 L7 a8 N) (cd := 1000000) (cm := 0) (y := (.h1m0 (false) ((v3 + (1 : Int))) : Z7)) (fu := 4000) (orc := (Zm [(0, true), (1, true)] [(0, (v3 + (1 : Int)))] [(0, (v3).toNat)] [(0, [.i (L0.getD (v3).toNat RB.z).a0, .i (L0.getD (v3).toNat RB.z).a1, .i (L0.getD (v3).toNat RB.z).a2, .i (L0.getD (v3).toNat RB.z).a3, .i (L0.getD (v3).toNat RB.z).a4, .i (L0.getD (v3).toNat RB.z).a5])] [])) (live := [0]) (tv := fun _ => [some (ms E_iiiiii L0), some (vp 0 0), some (vi (L0.getD ((a5 - (1 : Int))).toNat RB.z).a5), some (vf), some (vi (v3 + (1 : Int)))]) (bl := [some (.cells [vi a1, vi a2, vi a3, vi a4, vi a5, vi a6, ms E_ii L7, vi a8] 31)]) (ob := [((IntKind.i64.wrap (v3 + (1 : Int))) == (v3 + (1 : Int)), true), (((L0.getD (v3).toNat RB.z).a1 != a2), true), (dP (ZV (code (Z6 E_iiiiii L0)) (0 + ((v3).toNat * 6)) 6 = some [.i (L0.getD (v3).toNat RB.z).a0, .i (L0.getD (v3).toNat RB.z).a1, .i (L0.getD (v3).toNat RB.z).a2, .i (L0.getD (v3).toNat RB.z).a3, .i (L0.getD (v3).toNat RB.z).a4, .i (L0.getD (v3).toNat RB.z).a5]), true), (Nat.blt (v3).toNat L0.length, true), (v3 == Int.ofNat (v3).toNat, true), ((decide (v3 < (L0.length : Int))), true)]) rfl (show 1 ∈ Zl (Zc7 1) from by decide +kernel) (fun gv => by kernel_rfl) (Zb (beq_iff_eq.2 ((wrap_i64 ltA).trans (by first | rfl | omega))) <| oD <| Zb (Zw (ZJ (E := E_iiiiii) (L := L0) (i := (v3).toNat) (q := 0) (by omega) (show (0 + ((v3).toNat * 6)) = (v3).toNat * 6 + 0 from by omega) (show 0 + 6 ≤ 6 from by decide) rfl)) <| oB <| oI <| oY Zf) rfl (by decide) (by rfl) (fun _ => ⟨rr, ⟨rr, ⟨rr, ⟨rr, ⟨rr, trivial⟩⟩⟩⟩⟩) ⟨⟨rfl, ⟨[], by rfl⟩, by rfl⟩, trivial⟩
     ·
      refine Mach.ok_ite (fun g5 => ?_) (fun g5 => ?_)
      ·
       exact Mach.ok_fin (M := ZC L0 a1 a2 a3 a4 a5 a6 L7 a8 N) (cd := 1000000) (cm := 0) (r := (.r0 ((0 : Int)) (false) : Z1)) (fu := 4000) (orc := (Zm [(0, true), (1, false), (2, true)] [] [(0, (v3).toNat)] [(0, [.i (L0.getD (v3).toNat RB.z).a0, .i (L0.getD (v3).toNat RB.z).a1, .i (L0.getD (v3).toNat RB.z).a2, .i (L0.getD (v3).toNat RB.z).a3, .i (L0.getD (v3).toNat RB.z).a4, .i (L0.getD (v3).toNat RB.z).a5])] [])) (live := []) (u := Value.tuple #[vq, vf]) (bl := []) (ob := [(((L0.getD (v3).toNat RB.z).a5 != (L0.getD ((a5 - (1 : Int))).toNat RB.z).a5), true), (((L0.getD (v3).toNat RB.z).a1 != a2), false), (dP (ZV (code (Z6 E_iiiiii L0)) (0 + ((v3).toNat * 6)) 6 = some [.i (L0.getD (v3).toNat RB.z).a0, .i (L0.getD (v3).toNat RB.z).a1, .i (L0.getD (v3).toNat RB.z).a2, .i (L0.getD (v3).toNat RB.z).a3, .i (L0.getD (v3).toNat RB.z).a4, .i (L0.getD (v3).toNat RB.z).a5]), true), (Nat.blt (v3).toNat L0.length, true), (v3 == Int.ofNat (v3).toNat, true), ((decide (v3 < (L0.length : Int))), true)]) (fun gv => by kernel_rfl) (oD <| oE <| Zb (Zw (ZJ (E := E_iiiiii) (L := L0) (i := (v3).toNat) (q := 0) (by omega) (show (0 + ((v3).toNat * 6)) = (v3).toNat * 6 + 0 from by omega) (show 0 + 6 ≤ 6 from by decide) rfl)) <| oB <| oI <| oY Zf) rfl (by decide) (by rfl) rr trivial
      ·
       refine Mach.ok_ite (fun g6 => ?_) (fun g6 => ?_)
       ·
        exact Mach.ok_next (M := ZC L0 a1 a2 a3 a4 a5 a6 L7 a8 N) (cd := 1000000) (cm := 0) (y := (.h1m0 (true) ((v3 + (1 : Int))) : Z7)) (fu := 4000) (orc := (Zm [(0, true), (1, false), (2, false), (3, true)] [(0, (v3 + (1 : Int)))] [(0, (v3).toNat)] [(0, [.i (L0.getD (v3).toNat RB.z).a0, .i (L0.getD (v3).toNat RB.z).a1, .i (L0.getD (v3).toNat RB.z).a2, .i (L0.getD (v3).toNat RB.z).a3, .i (L0.getD (v3).toNat RB.z).a4, .i (L0.getD (v3).toNat RB.z).a5])] [])) (live := [0]) (tv := fun _ => [some (ms E_iiiiii L0), some (vp 0 0), some (vi (L0.getD ((a5 - (1 : Int))).toNat RB.z).a5), some (vT), some (vi (v3 + (1 : Int)))]) (bl := [some (.cells [vi a1, vi a2, vi a3, vi a4, vi a5, vi a6, ms E_ii L7, vi a8] 31)]) (ob := [((IntKind.i64.wrap (v3 + (1 : Int))) == (v3 + (1 : Int)), true), (((L0.getD (v3).toNat RB.z).a0 == (7 : Int)), true), (((L0.getD (v3).toNat RB.z).a5 != (L0.getD ((a5 - (1 : Int))).toNat RB.z).a5), false), (((L0.getD (v3).toNat RB.z).a1 != a2), false), (dP (ZV (code (Z6 E_iiiiii L0)) (0 + ((v3).toNat * 6)) 6 = some [.i (L0.getD (v3).toNat RB.z).a0, .i (L0.getD (v3).toNat RB.z).a1, .i (L0.getD (v3).toNat RB.z).a2, .i (L0.getD (v3).toNat RB.z).a3, .i (L0.getD (v3).toNat RB.z).a4, .i (L0.getD (v3).toNat RB.z).a5]), true), (Nat.blt (v3).toNat L0.length, true), (v3 == Int.ofNat (v3).toNat, true), ((decide (v3 < (L0.length : Int))), true)]) rfl (show 1 ∈ Zl (Zc7 1) from by decide +kernel) (fun gv => by kernel_rfl) (Zb (beq_iff_eq.2 ((wrap_i64 ltA).trans (by first | rfl | omega))) <| oT <| oE <| oE <| Zb (Zw (ZJ (E := E_iiiiii) (L := L0) (i := (v3).toNat) (q := 0) (by omega) (show (0 + ((v3).toNat * 6)) = (v3).toNat * 6 + 0 from by omega) (show 0 + 6 ≤ 6 from by decide) rfl)) <| oB <| oI <| oY Zf) rfl (by decide) (by rfl) (fun _ => ⟨rr, ⟨rr, ⟨rr, ⟨rr, ⟨rr, trivial⟩⟩⟩⟩⟩) ⟨⟨rfl, ⟨[], by rfl⟩, by rfl⟩, trivial⟩
       ·
        exact Mach.ok_next (M := ZC L0 a1 a2 a3 a4 a5 a6 L7 a8 N) (cd := 1000000) (cm := 0) (y := (.h1m0 (false) ((v3 + (1 : Int))) : Z7)) (fu := 4000) (orc := (Zm [(0, true), (1, false), (2, false), (3, false)] [(0, (v3 + (1 : Int)))] [(0, (v3).toNat)] [(0, [.i (L0.getD (v3).toNat RB.z).a0, .i (L0.getD (v3).toNat RB.z).a1, .i (L0.getD (v3).toNat RB.z).a2, .i (L0.getD (v3).toNat RB.z).a3, .i (L0.getD (v3).toNat RB.z).a4, .i (L0.getD (v3).toNat RB.z).a5])] [])) (live := [0]) (tv := fun _ => [some (ms E_iiiiii L0), some (vp 0 0), some (vi (L0.getD ((a5 - (1 : Int))).toNat RB.z).a5), some (vf), some (vi (v3 + (1 : Int)))]) (bl := [some (.cells [vi a1, vi a2, vi a3, vi a4, vi a5, vi a6, ms E_ii L7, vi a8] 31)]) (ob := [((IntKind.i64.wrap (v3 + (1 : Int))) == (v3 + (1 : Int)), true), (((L0.getD (v3).toNat RB.z).a0 == (7 : Int)), false), (((L0.getD (v3).toNat RB.z).a5 != (L0.getD ((a5 - (1 : Int))).toNat RB.z).a5), false), (((L0.getD (v3).toNat RB.z).a1 != a2), false), (dP (ZV (code (Z6 E_iiiiii L0)) (0 + ((v3).toNat * 6)) 6 = some [.i (L0.getD (v3).toNat RB.z).a0, .i (L0.getD (v3).toNat RB.z).a1, .i (L0.getD (v3).toNat RB.z).a2, .i (L0.getD (v3).toNat RB.z).a3, .i (L0.getD (v3).toNat RB.z).a4, .i (L0.getD (v3).toNat RB.z).a5]), true), (Nat.blt (v3).toNat L0.length, true), (v3 == Int.ofNat (v3).toNat, true), ((decide (v3 < (L0.length : Int))), true)]) rfl (show 1 ∈ Zl (Zc7 1) from by decide +kernel) (fun gv => by kernel_rfl) (Zb (beq_iff_eq.2 ((wrap_i64 ltA).trans (by first | rfl | omega))) <| oF <| oE <| oE <| Zb (Zw (ZJ (E := E_iiiiii) (L := L0) (i := (v3).toNat) (q := 0) (by omega) (show (0 + ((v3).toNat * 6)) = (v3).toNat * 6 + 0 from by omega) (show 0 + 6 ≤ 6 from by decide) rfl)) <| oB <| oI <| oY Zf) rfl (by decide) (by rfl) (fun _ => ⟨rr, ⟨rr, ⟨rr, ⟨rr, ⟨rr, trivial⟩⟩⟩⟩⟩) ⟨⟨rfl, ⟨[], by rfl⟩, by rfl⟩, trivial⟩
    ·
     exact Mach.ok_fin (M := ZC L0 a1 a2 a3 a4 a5 a6 L7 a8 N) (cd := 1000000) (cm := 0) (r := (.r0 ((0 : Int)) (false) : Z1)) (fu := 4000) (orc := (Zm [(0, false)] [] [] [] [])) (live := []) (u := Value.tuple #[vq, vf]) (bl := []) (ob := [((decide (v3 < (L0.length : Int))), false)]) (fun gv => by kernel_rfl) (oN Zf) rfl (by decide) (by rfl) rr trivial
   ·
    exact Mach.ok_none
  ·
   exact Mach.ok_none

theorem ZiZ (L0 : List RB) (a1 a2 a3 a4 a5 a6 : Int) (L7 : List R_ii) (a8 : Int) (N : Nat) : (ZC L0 a1 a2 a3 a4 a5 a6 L7 a8 N).Enter Tryz.prog Zx #[ms E_iiiiii L0, Value.agg #[vi a1, vi a2, vi a3, vi a4, vi a5, vi a6, ms E_ii L7, vi a8]] (Za6 L0 a1 a2 a3 a4 a5 a6 L7 a8 N) := by
 unfold Za6
 refine Mach.en_ite (fun g0 => ?_) (fun g0 => ?_)
 ·
  refine Mach.en_ite (fun g1 => ?_) (fun g1 => ?_)
  ·
   exact Mach.en_fin (M := ZC L0 a1 a2 a3 a4 a5 a6 L7 a8 N) (cd := 1000000) (cm := 0) (r := (.r0 ((0 : Int)) (false) : Z1)) (fu := 4000) (orc := (Zm [(0, true)] [] [] [] [])) (live := []) (u := Value.tuple #[vq, vf]) (bl := []) (ob := [((a1 != (2 : Int)), true)]) (by kernel_rfl) (oD Zf) rfl (by decide) (by rfl) rr trivial
  ·
   refine Mach.en_ite (fun g2 => ?_) (fun g2 => ?_)
   ·
    exact Mach.en_fin (M := ZC L0 a1 a2 a3 a4 a5 a6 L7 a8 N) (cd := 1000000) (cm := 0) (r := (.r0 ((0 : Int)) (false) : Z1)) (fu := 4000) (orc := (Zm [(0, false), (1, true)] [] [] [] [])) (live := []) (u := Value.tuple #[vq, vf]) (bl := []) (ob := [((decide (a5 < (1 : Int))), true), ((a1 != (2 : Int)), false)]) (by kernel_rfl) (oY <| oE Zf) rfl (by decide) (by rfl) rr trivial
   ·
    refine Mach.en_ite (fun g3 => ?_) (fun g3 => ?_)
    ·
     exact Mach.en_fin (M := ZC L0 a1 a2 a3 a4 a5 a6 L7 a8 N) (cd := 1000000) (cm := 0) (r := (.r0 ((0 : Int)) (false) : Z1)) (fu := 4000) (orc := (Zm [(0, false), (1, false), (2, true)] [] [] [] [])) (live := []) (u := Value.tuple #[vq, vf]) (bl := []) (ob := [((decide (a5 > (L0.length : Int))), true), ((decide (a5 < (1 : Int))), false), ((a1 != (2 : Int)), false)]) (by kernel_rfl) (oY <| oN <| oE Zf) rfl (by decide) (by rfl) rr trivial
    ·
     refine Mach.en_ite (fun g4 => ?_) (fun g4 => ?_)
     ·
      exact Mach.en_fin (M := ZC L0 a1 a2 a3 a4 a5 a6 L7 a8 N) (cd := 1000000) (cm := 0) (r := (.r0 ((0 : Int)) (false) : Z1)) (fu := 4000) (orc := (Zm [(0, false), (1, false), (2, false), (3, true)] [] [] [] [])) (live := []) (u := Value.tuple #[vq, vf]) (bl := []) (ob := [((decide (a6 < (1 : Int))), true), ((decide (a5 > (L0.length : Int))), false), ((decide (a5 < (1 : Int))), false), ((a1 != (2 : Int)), false)]) (by kernel_rfl) (oY <| oN <| oN <| oE Zf) rfl (by decide) (by rfl) rr trivial
     ·
      refine Mach.en_ite (fun g5 => ?_) (fun g5 => ?_)
      ·
       exact Mach.en_fin (M := ZC L0 a1 a2 a3 a4 a5 a6 L7 a8 N) (cd := 1000000) (cm := 0) (r := (.r0 ((0 : Int)) (false) : Z1)) (fu := 4000) (orc := (Zm [(0, false), (1, false), (2, false), (3, false), (4, true)] [] [] [] [])) (live := []) (u := Value.tuple #[vq, vf]) (bl := []) (ob := [((decide (a6 > (L0.length : Int))), true), ((decide (a6 < (1 : Int))), false), ((decide (a5 > (L0.length : Int))), false), ((decide (a5 < (1 : Int))), false), ((a1 != (2 : Int)), false)]) (by kernel_rfl) (oY <| oN <| oN <| oN <| oE Zf) rfl (by decide) (by rfl) rr trivial
      ·
       exact Mach.en_head (bK := ZbU 1) (M := ZC L0 a1 a2 a3 a4 a5 a6 L7 a8 N) (cd := 1000000) (cm := 0) (y := (.h1m0 (false) (a6) : Z7)) (fu := 4000) (orc := (Zm [(0, false), (1, false), (2, false), (3, false), (4, false)] [(0, (a5 - (1 : Int)))] [(0, ((a5 - (1 : Int))).toNat)] [(6, [.i (L0.getD ((a5 - (1 : Int))).toNat RB.z).a5])] [])) (live := [0]) (tv := [some (ms E_iiiiii L0), some (vp 0 0), some (vi (L0.getD ((a5 - (1 : Int))).toNat RB.z).a5), some (vf), some (vi a6)]) (bl := [some (.cells [vi a1, vi a2, vi a3, vi a4, vi a5, vi a6, ms E_ii L7, vi a8] 31)]) (ob := [(dP (ZV (code (Z6 E_iiiiii L0)) ((0 + (((a5 - (1 : Int))).toNat * 6)) + 5) 1 = some [.i (L0.getD ((a5 - (1 : Int))).toNat RB.z).a5]), true), (Nat.blt ((a5 - (1 : Int))).toNat L0.length, true), ((a5 - (1 : Int)) == Int.ofNat ((a5 - (1 : Int))).toNat, true), ((IntKind.i64.wrap (a5 - (1 : Int))) == (a5 - (1 : Int)), true), ((decide (a6 > (L0.length : Int))), false), ((decide (a6 < (1 : Int))), false), ((decide (a5 > (L0.length : Int))), false), ((decide (a5 < (1 : Int))), false), ((a1 != (2 : Int)), false)]) rfl rfl (show Zl (ZbU 1).2 = [] from rfl) (by kernel_rfl) (Zb (Zw (ZJ (E := E_iiiiii) (L := L0) (i := ((a5 - (1 : Int))).toNat) (q := 5) (by omega) (show ((0 + (((a5 - (1 : Int))).toNat * 6)) + 5) = ((a5 - (1 : Int))).toNat * 6 + 5 from by omega) (show 5 + 1 ≤ 6 from by decide) rfl)) <| oB <| oI <| Zb (beq_iff_eq.2 ((wrap_i64 ltA).trans (by first | rfl | omega))) <| oN <| oN <| oN <| oN <| oE Zf) rfl (by decide) (by rfl) ⟨rr, ⟨rr, ⟨rr, ⟨rr, ⟨rr, trivial⟩⟩⟩⟩⟩ ⟨⟨rfl, ⟨[], by rfl⟩, by rfl⟩, trivial⟩
 ·
  exact Mach.en_none

theorem ZhA (L0 : List RB) (a1 a2 a3 a4 a5 a6 : Int) (L7 : List R_ii) (a8 : Int) (N : Nat) (r : Z1) (h : ZbN L0 a1 a2 a3 a4 a5 a6 L7 a8 N = some r) : LSpec Tryz.prog 6 #[ms E_iiiiii L0, Value.agg #[vi a1, vi a2, vi a3, vi a4, vi a5, vi a6, ms E_ii L7, vi a8]] [] (Zgy L0 a1 a2 a3 a4 a5 a6 L7 a8 r) (ZfI L0 a1 a2 a3 a4 a5 a6 L7 a8 r) :=
 Mach.spec ZcN (ZC L0 a1 a2 a3 a4 a5 a6 L7 a8 N) Tryz.func6 (by kernel_rfl) (by kernel_rfl) (fun x => by cases x <;> exact ZaQ _ rfl) (fun r => by cases r <;> exact ZaQ _ rfl) (fun x => by
  cases x with
  | h1m0 _ _ => exact fun _ => (show ¬ (1 ∈ Zl (ZbU 1).2) from by decide +kernel)
  ) (fun x => (show (ZC L0 a1 a2 a3 a4 a5 a6 L7 a8 N).Ok Tryz.prog Zx x (ZaX L0 a1 a2 a3 a4 a5 a6 L7 a8 N x) from by
  cases x with
  | h1m0 v2 v3 => exact Zhl L0 a1 a2 a3 a4 a5 a6 L7 a8 v2 v3 N
  )) (ZiZ L0 a1 a2 a3 a4 a5 a6 L7 a8 N) (n := N) h

noncomputable def Zbb (L0 : List RB) (a1 a2 a3 a4 a5 a6 : Int) (L7 : List R_ii) (a8 w0 : Int) (w1 : Bool) (n : Nat) : Zcn := .call [] (Value.tuple #[vi w0, Value.bool w1]) [] 0
def ZaK (A : Array Value) (L0 : List RB) (a1 a2 a3 a4 a5 a6 : Int) (L7 : List R_ii) (a8 w0 : Int) (w1 : Bool) (n : Nat) : Prop := Zam Tryz.prog 6 A [] (Value.tuple #[vi w0, Value.bool w1]) [] n 0

theorem Zbc (A : Array Value) (L0 : List RB) (a1 a2 a3 a4 a5 a6 : Int) (L7 : List R_ii) (a8 w0 : Int) (w1 : Bool) (N : Nat) (h : ZbN L0 a1 a2 a3 a4 a5 a6 L7 a8 N = some (.r0 w0 w1)) (n : Nat) (hA : A = #[ms E_iiiiii L0, Value.agg #[vi a1, vi a2, vi a3, vi a4, vi a5, vi a6, ms E_ii L7, vi a8]]) (hnd : ([] : List Nat).Nodup) (hlt : ∀ k ∈ ([] : List Nat), k < n) : ZaK A L0 a1 a2 a3 a4 a5 a6 L7 a8 w0 w1  n :=
 Zb5 hA (LSpec.callL (show LSpec Tryz.prog 6 #[ms E_iiiiii L0, Value.agg #[vi a1, vi a2, vi a3, vi a4, vi a5, vi a6, ms E_ii L7, vi a8]] [] (Value.tuple #[vi w0, Value.bool w1]) [] from ZhA L0 a1 a2 a3 a4 a5 a6 L7 a8 N _ h) [] n [] rfl hnd hlt (show 0 ≤ 0 from by decide) (show ∀ j ∈ ([] : List Nat), j < 0 from by decide) (by rfl) trivial (by rfl) trivial trivial rfl rfl rfl rfl rfl)

noncomputable def Zce (L0 : List RA) : ZH → Value
 | .r0 w0 => vtt
noncomputable def ZbP (L0 : List RA) : ZH → List (Option AObj)
 | .r0 w0 => [some (.cells (Zd Zk w0) 45)]

theorem ZbG (L0 : List RA) (N : Nat) (r : ZH) (h : ZK L0 N = some r) : LSpec Tryz.prog 16 #[vs 0 0 L0.length L0.length, Value.func (.func 17) #[] #[]] [.cells (Zd Zk L0) 45] (Zce L0 r) (ZbP L0 r) := by
 unfold ZK at h
 by_cases h1 : L0.length ≤ 100000
 · rw [if_pos h1] at h
   obtain rfl := (Option.some.inj h).symm
   exact ZmR (E := Zk) (L := L0) Zmj rfl (key := ZeJ) (fun _ => rfl) (fun _ => rfl) h1
 · rw [if_neg h1] at h; cases h

noncomputable def ZbQ (L0 w0 : List RA) (k0 n : Nat) : Zcn := .call [(k0, .cells (Zd Zk L0) 45)] (vtt) [(k0, some (.cells (Zd Zk w0) 45))] 0
def ZaL (A : Array Value) (L0 w0 : List RA) (k0 n : Nat) : Prop := Zam Tryz.prog 16 A [(k0, .cells (Zd Zk L0) 45)] (vtt) [(k0, some (.cells (Zd Zk w0) 45))] n 0

theorem ZbR (A : Array Value) (L0 w0 : List RA) (N : Nat) (h : ZK L0 N = some (.r0 w0)) (k0 n : Nat) (hA : A = #[vs k0 0 L0.length L0.length, Value.func (.func 17) #[] #[]]) (hnd : ([k0] : List Nat).Nodup) (hlt : ∀ k ∈ ([k0] : List Nat), k < n) : ZaL A L0 w0 k0 n :=
 Zb5 hA (LSpec.callL (show LSpec Tryz.prog 16 #[vs 0 0 L0.length L0.length, Value.func (.func 17) #[] #[]] [.cells (Zd Zk L0) 45] (vtt) [some (.cells (Zd Zk w0) 45)] from ZbG L0 N _ h) [k0] n [0] rfl hnd hlt (show 1 ≤ 1 from by decide) (show ∀ j ∈ ([0] : List Nat), j < 1 from by decide) (by rfl) ⟨(Zbp _ _ _), trivial⟩ (by rfl) ⟨(Zbp _ _ _), trivial⟩ ⟨.inl (by decide), trivial⟩ rfl rfl rfl (Zat (ZbT rfl (ZcM _ _ _)) rfl) (Zat (ZbT rfl (ZfD (ZcM _ _ _))) rfl))

noncomputable def ZeM (L0 : List RB) (L1 : List R_iiiiiiAi) : ZY → Value
 | .r0 => vn
 | .r1 w1 w2 => vs 1 0 w2 w2
noncomputable def Zej (L0 : List RB) (L1 : List R_iiiiiiAi) : ZY → List (Option AObj)
 | .r0 => [some (.cells (Zd E_iiiiiiAi L1) 31)]
 | .r1 w1 w2 => [some (.cells (Zd E_iiiiiiAi L1) 31), some (.cells (Zd Zk w1) 45)]

def ZhB : Zt → Nat
 | .h1m0 v3 => 1
 | .h1m1 v2 v4 => 1
noncomputable def Ziu (L0 : List RB) (L1 : List R_iiiiiiAi) : Zt → List (Nat × Value)
 | .h1m0 v3 => [(0, ms E_iiiiii L0), (5, vn), (10, vs 0 0 L1.length L1.length), (11, vi (L1.length : Int)), (12, vi (v3 : Int))]
 | .h1m1 v2 v4 => [(0, ms E_iiiiii L0), (5, vs 1 0 v2.length v2.length), (10, vs 0 0 L1.length L1.length), (11, vi (L1.length : Int)), (12, vi (v4 : Int))]
noncomputable def Ziv (L0 : List RB) (L1 : List R_iiiiiiAi) : Zt → List (Option AObj)
 | .h1m0 v3 => [some (.cells (Zd E_iiiiiiAi L1) 31)]
 | .h1m1 v2 v4 => [some (.cells (Zd E_iiiiiiAi L1) 31), some (.cells (Zd Zk v2) 45)]

noncomputable def ZaY : Nat → Code × List Zaw
 | 1 => ZaP [1, 1, 0, 1, 3] (Zb9 Tryz.f11) []
 | _ => (.skip, [])
def Zek : Nat → Bool
 | 1 => true
 | _ => true
noncomputable def Zc5 (i : Nat) : List Zaw := match Zek i with | true => .rnd i :: (ZaY i).2 | false => (ZaY i).2

noncomputable def ZS (L0 : List RB) (L1 : List R_iiiiiiAi) (N : Nat) : Mach := ⟨Tryz.f11, [.cells (Zd E_iiiiiiAi L1) 31], Zt, ZY, Za8 L0 L1 N, ZhB, ZaY, Zek, Ziu L0 L1, Ziv L0 L1, ZeM L0 L1, Zej L0 L1⟩

theorem ZfK (L0 : List RB) (L1 : List R_iiiiiiAi) (v3 N : Nat) : (ZS L0 L1 N).Ok Tryz.prog Zx (.h1m0 v3 : Zt) (Za8 L0 L1 N (.h1m0 v3 : Zt)) := by
 show (ZS L0 L1 N).Ok Tryz.prog Zx (.h1m0 v3 : Zt) (Zag L0 L1 N v3)
 unfold Zag
 refine Mach.ok_ite (fun g0 => ?_) (fun g0 => ?_)
 ·
  refine Mach.ok_ite (fun g1 => ?_) (fun g1 => ?_)
  ·
   refine Mach.ok_bind (fun z2 c2 => ?_)
   cases z2 with
   | r0 y2_0 y2_1 =>
    refine Mach.ok_ite (fun g3 => ?_) (fun g3 => ?_)
    ·
     subst g3
     refine Mach.ok_ite (fun g4 => ?_) (fun g4 => ?_)
     ·
      exact Mach.ok_next (M := ZS L0 L1 N) (cd := 1000000) (cm := 0) (y := (.h1m1 (([(⟨y2_0, (L1.getD v3 R_iiiiiiAi.z).a4, (L1.getD v3 R_iiiiiiAi.z).a1⟩ : RA)] : List RA)) ((v3 + 1)) : Zt)) (fu := 4000) (orc := (Zm [(0, true)] [(0, (((v3 + 1) : Nat) : Int))] [(0, v3)] [(0, [.i (L1.getD v3 R_iiiiiiAi.z).a0, .i (L1.getD v3 R_iiiiiiAi.z).a1, .i (L1.getD v3 R_iiiiiiAi.z).a2, .i (L1.getD v3 R_iiiiiiAi.z).a3, .i (L1.getD v3 R_iiiiiiAi.z).a4, .i (L1.getD v3 R_iiiiiiAi.z).a5, (mc E_ii (L1.getD v3 R_iiiiiiAi.z).a6), .i (L1.getD v3 R_iiiiiiAi.z).a7])] [(1, (Zbh (L0) ((L1.getD v3 R_iiiiiiAi.z).a0) ((L1.getD v3 R_iiiiiiAi.z).a1) ((L1.getD v3 R_iiiiiiAi.z).a2) ((L1.getD v3 R_iiiiiiAi.z).a3) ((L1.getD v3 R_iiiiiiAi.z).a4) ((L1.getD v3 R_iiiiiiAi.z).a5) ((L1.getD v3 R_iiiiiiAi.z).a6) ((L1.getD v3 R_iiiiiiAi.z).a7)  y2_0 true  2))])) (live := [0, 3]) (tv := fun _ => [some (ms E_iiiiii L0), some (vs 3 0 1 1), some (vs 0 0 L1.length L1.length), some (vi (L1.length : Int)), some (vi (((v3 + 1) : Nat) : Int))]) (bl := [some (.cells (Zd E_iiiiiiAi L1) 31), some (.cells [vi y2_0, vi (L1.getD v3 R_iiiiiiAi.z).a4, vi (L1.getD v3 R_iiiiiiAi.z).a1] 45)]) (ob := [((IntKind.i64.wrap ((v3 : Int) + (1 : Int))) == (((v3 + 1) : Nat) : Int), true), (dP (ZaO #[ms E_iiiiii L0, Value.agg #[vi (L1.getD v3 R_iiiiiiAi.z).a0, vi (L1.getD v3 R_iiiiiiAi.z).a1, vi (L1.getD v3 R_iiiiiiAi.z).a2, vi (L1.getD v3 R_iiiiiiAi.z).a3, vi (L1.getD v3 R_iiiiiiAi.z).a4, vi (L1.getD v3 R_iiiiiiAi.z).a5, ms E_ii (L1.getD v3 R_iiiiiiAi.z).a6, vi (L1.getD v3 R_iiiiiiAi.z).a7]] (L0) ((L1.getD v3 R_iiiiiiAi.z).a0) ((L1.getD v3 R_iiiiiiAi.z).a1) ((L1.getD v3 R_iiiiiiAi.z).a2) ((L1.getD v3 R_iiiiiiAi.z).a3) ((L1.getD v3 R_iiiiiiAi.z).a4) ((L1.getD v3 R_iiiiiiAi.z).a5) ((L1.getD v3 R_iiiiiiAi.z).a6) ((L1.getD v3 R_iiiiiiAi.z).a7)  y2_0 true  2), true), (ZO (Zv 8 (List.drop (0 + (v3 * 8)) (Zd E_iiiiiiAi L1))) [.i (L1.getD v3 R_iiiiiiAi.z).a0, .i (L1.getD v3 R_iiiiiiAi.z).a1, .i (L1.getD v3 R_iiiiiiAi.z).a2, .i (L1.getD v3 R_iiiiiiAi.z).a3, .i (L1.getD v3 R_iiiiiiAi.z).a4, .i (L1.getD v3 R_iiiiiiAi.z).a5, (mc E_ii (L1.getD v3 R_iiiiiiAi.z).a6), .i (L1.getD v3 R_iiiiiiAi.z).a7], true), (Nat.blt v3 L1.length, true), ((v3 : Int) == Int.ofNat v3, true), ((decide ((v3 : Int) < (L1.length : Int))), true)]) rfl (show 1 ∈ Zl (Zc5 1) from by decide +kernel) (fun gv => by kernel_rfl) (Zb (beq_iff_eq.2 ((wrap_i64 ltA).trans (by first | rfl | omega))) <| Zb (Zw (Zbi #[ms E_iiiiii L0, Value.agg #[vi (L1.getD v3 R_iiiiiiAi.z).a0, vi (L1.getD v3 R_iiiiiiAi.z).a1, vi (L1.getD v3 R_iiiiiiAi.z).a2, vi (L1.getD v3 R_iiiiiiAi.z).a3, vi (L1.getD v3 R_iiiiiiAi.z).a4, vi (L1.getD v3 R_iiiiiiAi.z).a5, ms E_ii (L1.getD v3 R_iiiiiiAi.z).a6, vi (L1.getD v3 R_iiiiiiAi.z).a7]] (L0) ((L1.getD v3 R_iiiiiiAi.z).a0) ((L1.getD v3 R_iiiiiiAi.z).a1) ((L1.getD v3 R_iiiiiiAi.z).a2) ((L1.getD v3 R_iiiiiiAi.z).a3) ((L1.getD v3 R_iiiiiiAi.z).a4) ((L1.getD v3 R_iiiiiiAi.z).a5) ((L1.getD v3 R_iiiiiiAi.z).a6) ((L1.getD v3 R_iiiiiiAi.z).a7)  y2_0 true N c2  2 rfl (by decide) (by decide))) <| Zb (Zy (E := E_iiiiiiAi) (L := L1) (i := v3) (q := 0) (by omega) (show (0 + (v3 * 8)) = v3 * 8 + 0 from by omega) (show 0 + 8 ≤ 8 from by decide) rfl rfl) <| oB <| oI <| oY Zf) rfl (by decide) (by rfl) (fun _ => ⟨rr, ⟨⟨Eq.trans (show (vs 1 0 ([(⟨y2_0, (L1.getD v3 R_iiiiiiAi.z).a4, (L1.getD v3 R_iiiiiiAi.z).a1⟩ : RA)] : List RA).length ([(⟨y2_0, (L1.getD v3 R_iiiiiiAi.z).a4, (L1.getD v3 R_iiiiiiAi.z).a1⟩ : RA)] : List RA).length : Value) = vs 1 0 1 1 from (ZdF rfl eqA eqA)) (by rfl), by rfl⟩, ⟨rr, ⟨rr, ⟨rr, trivial⟩⟩⟩⟩⟩) ⟨(Zh (E := E_iiiiiiAi) (α := R_iiiiiiAi) _ L1 _), ⟨(ZiN (E := Zk) _ (L := ([(⟨y2_0, (L1.getD v3 R_iiiiiiAi.z).a4, (L1.getD v3 R_iiiiiiAi.z).a1⟩ : RA)] : List RA)) _ (show ([vi y2_0, vi (L1.getD v3 R_iiiiiiAi.z).a4, vi (L1.getD v3 R_iiiiiiAi.z).a1] : List Value) = Zd Zk ([(⟨y2_0, (L1.getD v3 R_iiiiiiAi.z).a4, (L1.getD v3 R_iiiiiiAi.z).a1⟩ : RA)] : List RA) from rfl)), trivial⟩⟩
     ·
      exact Mach.ok_none
    ·
     obtain rfl : y2_1 = false := by simpa using g3
     refine Mach.ok_ite (fun g4 => ?_) (fun g4 => ?_)
     ·
      exact Mach.ok_next (M := ZS L0 L1 N) (cd := 1000000) (cm := 0) (y := (.h1m0 ((v3 + 1)) : Zt)) (fu := 4000) (orc := (Zm [(0, true)] [(0, (((v3 + 1) : Nat) : Int))] [(0, v3)] [(0, [.i (L1.getD v3 R_iiiiiiAi.z).a0, .i (L1.getD v3 R_iiiiiiAi.z).a1, .i (L1.getD v3 R_iiiiiiAi.z).a2, .i (L1.getD v3 R_iiiiiiAi.z).a3, .i (L1.getD v3 R_iiiiiiAi.z).a4, .i (L1.getD v3 R_iiiiiiAi.z).a5, (mc E_ii (L1.getD v3 R_iiiiiiAi.z).a6), .i (L1.getD v3 R_iiiiiiAi.z).a7])] [(1, (Zbh (L0) ((L1.getD v3 R_iiiiiiAi.z).a0) ((L1.getD v3 R_iiiiiiAi.z).a1) ((L1.getD v3 R_iiiiiiAi.z).a2) ((L1.getD v3 R_iiiiiiAi.z).a3) ((L1.getD v3 R_iiiiiiAi.z).a4) ((L1.getD v3 R_iiiiiiAi.z).a5) ((L1.getD v3 R_iiiiiiAi.z).a6) ((L1.getD v3 R_iiiiiiAi.z).a7)  y2_0 false  2))])) (live := [0]) (tv := fun _ => [some (ms E_iiiiii L0), some (vn), some (vs 0 0 L1.length L1.length), some (vi (L1.length : Int)), some (vi (((v3 + 1) : Nat) : Int))]) (bl := [some (.cells (Zd E_iiiiiiAi L1) 31)]) (ob := [((IntKind.i64.wrap ((v3 : Int) + (1 : Int))) == (((v3 + 1) : Nat) : Int), true), (dP (ZaO #[ms E_iiiiii L0, Value.agg #[vi (L1.getD v3 R_iiiiiiAi.z).a0, vi (L1.getD v3 R_iiiiiiAi.z).a1, vi (L1.getD v3 R_iiiiiiAi.z).a2, vi (L1.getD v3 R_iiiiiiAi.z).a3, vi (L1.getD v3 R_iiiiiiAi.z).a4, vi (L1.getD v3 R_iiiiiiAi.z).a5, ms E_ii (L1.getD v3 R_iiiiiiAi.z).a6, vi (L1.getD v3 R_iiiiiiAi.z).a7]] (L0) ((L1.getD v3 R_iiiiiiAi.z).a0) ((L1.getD v3 R_iiiiiiAi.z).a1) ((L1.getD v3 R_iiiiiiAi.z).a2) ((L1.getD v3 R_iiiiiiAi.z).a3) ((L1.getD v3 R_iiiiiiAi.z).a4) ((L1.getD v3 R_iiiiiiAi.z).a5) ((L1.getD v3 R_iiiiiiAi.z).a6) ((L1.getD v3 R_iiiiiiAi.z).a7)  y2_0 false  2), true), (ZO (Zv 8 (List.drop (0 + (v3 * 8)) (Zd E_iiiiiiAi L1))) [.i (L1.getD v3 R_iiiiiiAi.z).a0, .i (L1.getD v3 R_iiiiiiAi.z).a1, .i (L1.getD v3 R_iiiiiiAi.z).a2, .i (L1.getD v3 R_iiiiiiAi.z).a3, .i (L1.getD v3 R_iiiiiiAi.z).a4, .i (L1.getD v3 R_iiiiiiAi.z).a5, (mc E_ii (L1.getD v3 R_iiiiiiAi.z).a6), .i (L1.getD v3 R_iiiiiiAi.z).a7], true), (Nat.blt v3 L1.length, true), ((v3 : Int) == Int.ofNat v3, true), ((decide ((v3 : Int) < (L1.length : Int))), true)]) rfl (show 1 ∈ Zl (Zc5 1) from by decide +kernel) (fun gv => by kernel_rfl) (Zb (beq_iff_eq.2 ((wrap_i64 ltA).trans (by first | rfl | omega))) <| Zb (Zw (Zbi #[ms E_iiiiii L0, Value.agg #[vi (L1.getD v3 R_iiiiiiAi.z).a0, vi (L1.getD v3 R_iiiiiiAi.z).a1, vi (L1.getD v3 R_iiiiiiAi.z).a2, vi (L1.getD v3 R_iiiiiiAi.z).a3, vi (L1.getD v3 R_iiiiiiAi.z).a4, vi (L1.getD v3 R_iiiiiiAi.z).a5, ms E_ii (L1.getD v3 R_iiiiiiAi.z).a6, vi (L1.getD v3 R_iiiiiiAi.z).a7]] (L0) ((L1.getD v3 R_iiiiiiAi.z).a0) ((L1.getD v3 R_iiiiiiAi.z).a1) ((L1.getD v3 R_iiiiiiAi.z).a2) ((L1.getD v3 R_iiiiiiAi.z).a3) ((L1.getD v3 R_iiiiiiAi.z).a4) ((L1.getD v3 R_iiiiiiAi.z).a5) ((L1.getD v3 R_iiiiiiAi.z).a6) ((L1.getD v3 R_iiiiiiAi.z).a7)  y2_0 false N c2  2 rfl (by decide) (by decide))) <| Zb (Zy (E := E_iiiiiiAi) (L := L1) (i := v3) (q := 0) (by omega) (show (0 + (v3 * 8)) = v3 * 8 + 0 from by omega) (show 0 + 8 ≤ 8 from by decide) rfl rfl) <| oB <| oI <| oY Zf) rfl (by decide) (by rfl) (fun _ => ⟨rr, ⟨rr, ⟨rr, ⟨rr, ⟨rr, trivial⟩⟩⟩⟩⟩) ⟨(Zh (E := E_iiiiiiAi) (α := R_iiiiiiAi) _ L1 _), trivial⟩
     ·
      exact Mach.ok_none
  ·
   refine Mach.ok_bind (fun z2 c2 => ?_)
   cases z2 with
   | r0 =>
    exact Mach.ok_fin (M := ZS L0 L1 N) (cd := 1000000) (cm := 0) (r := (.r0 : ZY)) (fu := 4000) (orc := (Zm [(0, false)] [] [] [] [(0, (ZaS     1))])) (live := [0]) (u := vn) (bl := [some (.cells (Zd E_iiiiiiAi L1) 31)]) (ob := [(dP (Zar #[vn, Value.func (.func 17) #[] #[]]     1), true), ((decide ((v3 : Int) < (L1.length : Int))), false)]) (fun gv => by kernel_rfl) (Zb (Zw (ZaT #[vn, Value.func (.func 17) #[] #[]]    N c2  1 rfl (by decide) (by decide))) <| oN Zf) rfl (by decide) (by rfl) rr ⟨(Zh (E := E_iiiiiiAi) (α := R_iiiiiiAi) _ L1 _), trivial⟩
 ·
  exact Mach.ok_none

theorem ZfL (L0 : List RB) (L1 : List R_iiiiiiAi) (v2 : List RA) (v4 N : Nat) : (ZS L0 L1 N).Ok Tryz.prog Zx (.h1m1 v2 v4 : Zt) (Za8 L0 L1 N (.h1m1 v2 v4 : Zt)) := by
 show (ZS L0 L1 N).Ok Tryz.prog Zx (.h1m1 v2 v4 : Zt) (Zah L0 L1 N v2 v4)
 unfold Zah
 refine Mach.ok_ite (fun g0 => ?_) (fun g0 => ?_)
 ·
  refine Mach.ok_ite (fun g1 => ?_) (fun g1 => ?_)
  ·
   refine Mach.ok_bind (fun z2 c2 => ?_)
   cases z2 with
   | r0 y2_0 y2_1 =>
    refine Mach.ok_ite (fun g3 => ?_) (fun g3 => ?_)
    ·
     subst g3
     refine Mach.ok_ite (fun g4 => ?_) (fun g4 => ?_)
     ·
      refine Mach.ok_ite (fun g5 => ?_) (fun g5 => ?_)
      ·
       exact Mach.ok_next (M := ZS L0 L1 N) (cd := 1000000) (cm := 0) (y := (.h1m1 ((v2 ++ ([(⟨y2_0, (L1.getD v4 R_iiiiiiAi.z).a4, (L1.getD v4 R_iiiiiiAi.z).a1⟩ : RA)] : List RA))) ((v4 + 1)) : Zt)) (fu := 4000) (orc := (Zm [(0, true)] [(0, (((v4 + 1) : Nat) : Int))] [(0, v4)] [(0, [.i (L1.getD v4 R_iiiiiiAi.z).a0, .i (L1.getD v4 R_iiiiiiAi.z).a1, .i (L1.getD v4 R_iiiiiiAi.z).a2, .i (L1.getD v4 R_iiiiiiAi.z).a3, .i (L1.getD v4 R_iiiiiiAi.z).a4, .i (L1.getD v4 R_iiiiiiAi.z).a5, (mc E_ii (L1.getD v4 R_iiiiiiAi.z).a6), .i (L1.getD v4 R_iiiiiiAi.z).a7])] [(1, (Zbh (L0) ((L1.getD v4 R_iiiiiiAi.z).a0) ((L1.getD v4 R_iiiiiiAi.z).a1) ((L1.getD v4 R_iiiiiiAi.z).a2) ((L1.getD v4 R_iiiiiiAi.z).a3) ((L1.getD v4 R_iiiiiiAi.z).a4) ((L1.getD v4 R_iiiiiiAi.z).a5) ((L1.getD v4 R_iiiiiiAi.z).a6) ((L1.getD v4 R_iiiiiiAi.z).a7)  y2_0 true  3)), (2, .ap 1 [vi y2_0, vi (L1.getD v4 R_iiiiiiAi.z).a4, vi (L1.getD v4 R_iiiiiiAi.z).a1] (Zd Zk (v2 ++ ([(⟨y2_0, (L1.getD v4 R_iiiiiiAi.z).a4, (L1.getD v4 R_iiiiiiAi.z).a1⟩ : RA)] : List RA))))])) (live := [0, 4]) (tv := fun _ => [some (ms E_iiiiii L0), some (vs 4 0 (v2.length + 1) (v2.length + 1)), some (vs 0 0 L1.length L1.length), some (vi (L1.length : Int)), some (vi (((v4 + 1) : Nat) : Int))]) (bl := [some (.cells (Zd E_iiiiiiAi L1) 31), some (.cells (Zd Zk (v2 ++ ([(⟨y2_0, (L1.getD v4 R_iiiiiiAi.z).a4, (L1.getD v4 R_iiiiiiAi.z).a1⟩ : RA)] : List RA))) 45)]) (ob := [((IntKind.i64.wrap ((v4 : Int) + (1 : Int))) == (((v4 + 1) : Nat) : Int), true), (dP ((1 = 1 ∧ Zv (1 * 3) (List.drop 0 [vi y2_0, vi (L1.getD v4 R_iiiiiiAi.z).a4, vi (L1.getD v4 R_iiiiiiAi.z).a1]) = some [vi y2_0, vi (L1.getD v4 R_iiiiiiAi.z).a4, vi (L1.getD v4 R_iiiiiiAi.z).a1] ∧ Zu Zb3 [vi y2_0, vi (L1.getD v4 R_iiiiiiAi.z).a4, vi (L1.getD v4 R_iiiiiiAi.z).a1] = true) ∧ 0 < 1 ∧ 1 ≤ 100000 ∧ v2.length < v2.length + 1 ∧ v2.length ≤ 100000 ∧ v2.length * 3 ≤ (List.length (Zd Zk v2)) ∧ List.take (v2.length * 3) (Zd Zk v2) ++ [vi y2_0, vi (L1.getD v4 R_iiiiiiAi.z).a4, vi (L1.getD v4 R_iiiiiiAi.z).a1] = (Zd Zk (v2 ++ ([(⟨y2_0, (L1.getD v4 R_iiiiiiAi.z).a4, (L1.getD v4 R_iiiiiiAi.z).a1⟩ : RA)] : List RA)))), true), (dP (ZaO #[ms E_iiiiii L0, Value.agg #[vi (L1.getD v4 R_iiiiiiAi.z).a0, vi (L1.getD v4 R_iiiiiiAi.z).a1, vi (L1.getD v4 R_iiiiiiAi.z).a2, vi (L1.getD v4 R_iiiiiiAi.z).a3, vi (L1.getD v4 R_iiiiiiAi.z).a4, vi (L1.getD v4 R_iiiiiiAi.z).a5, ms E_ii (L1.getD v4 R_iiiiiiAi.z).a6, vi (L1.getD v4 R_iiiiiiAi.z).a7]] (L0) ((L1.getD v4 R_iiiiiiAi.z).a0) ((L1.getD v4 R_iiiiiiAi.z).a1) ((L1.getD v4 R_iiiiiiAi.z).a2) ((L1.getD v4 R_iiiiiiAi.z).a3) ((L1.getD v4 R_iiiiiiAi.z).a4) ((L1.getD v4 R_iiiiiiAi.z).a5) ((L1.getD v4 R_iiiiiiAi.z).a6) ((L1.getD v4 R_iiiiiiAi.z).a7)  y2_0 true  3), true), (ZO (Zv 8 (List.drop (0 + (v4 * 8)) (Zd E_iiiiiiAi L1))) [.i (L1.getD v4 R_iiiiiiAi.z).a0, .i (L1.getD v4 R_iiiiiiAi.z).a1, .i (L1.getD v4 R_iiiiiiAi.z).a2, .i (L1.getD v4 R_iiiiiiAi.z).a3, .i (L1.getD v4 R_iiiiiiAi.z).a4, .i (L1.getD v4 R_iiiiiiAi.z).a5, (mc E_ii (L1.getD v4 R_iiiiiiAi.z).a6), .i (L1.getD v4 R_iiiiiiAi.z).a7], true), (Nat.blt v4 L1.length, true), ((v4 : Int) == Int.ofNat v4, true), ((decide ((v4 : Int) < (L1.length : Int))), true)]) rfl (show 1 ∈ Zl (Zc5 1) from by decide +kernel) (fun gv => by kernel_rfl) (Zb (beq_iff_eq.2 ((wrap_i64 ltA).trans (by first | rfl | omega))) <| Zb (Zw ⟨⟨rfl, ⟨rfl, rfl⟩⟩, by omega, by omega, ltA, by omega, (Zla (E := Zk) (L := v2) (M := ([(⟨y2_0, (L1.getD v4 R_iiiiiiAi.z).a4, (L1.getD v4 R_iiiiiiAi.z).a1⟩ : RA)] : List RA)) (n := v2.length) (show _ = _ * 3 from rfl) (by omega) (R := (v2 ++ ([(⟨y2_0, (L1.getD v4 R_iiiiiiAi.z).a4, (L1.getD v4 R_iiiiiiAi.z).a1⟩ : RA)] : List RA))) (by rw [List.take_of_length_le (by omega)]))⟩) <| Zb (Zw (Zbi #[ms E_iiiiii L0, Value.agg #[vi (L1.getD v4 R_iiiiiiAi.z).a0, vi (L1.getD v4 R_iiiiiiAi.z).a1, vi (L1.getD v4 R_iiiiiiAi.z).a2, vi (L1.getD v4 R_iiiiiiAi.z).a3, vi (L1.getD v4 R_iiiiiiAi.z).a4, vi (L1.getD v4 R_iiiiiiAi.z).a5, ms E_ii (L1.getD v4 R_iiiiiiAi.z).a6, vi (L1.getD v4 R_iiiiiiAi.z).a7]] (L0) ((L1.getD v4 R_iiiiiiAi.z).a0) ((L1.getD v4 R_iiiiiiAi.z).a1) ((L1.getD v4 R_iiiiiiAi.z).a2) ((L1.getD v4 R_iiiiiiAi.z).a3) ((L1.getD v4 R_iiiiiiAi.z).a4) ((L1.getD v4 R_iiiiiiAi.z).a5) ((L1.getD v4 R_iiiiiiAi.z).a6) ((L1.getD v4 R_iiiiiiAi.z).a7)  y2_0 true N c2  3 rfl (by decide) (by decide))) <| Zb (Zy (E := E_iiiiiiAi) (L := L1) (i := v4) (q := 0) (by omega) (show (0 + (v4 * 8)) = v4 * 8 + 0 from by omega) (show 0 + 8 ≤ 8 from by decide) rfl rfl) <| oB <| oI <| oY Zf) rfl (by decide) (by rfl) (fun _ => ⟨rr, ⟨⟨Eq.trans (show (vs 1 0 (v2 ++ ([(⟨y2_0, (L1.getD v4 R_iiiiiiAi.z).a4, (L1.getD v4 R_iiiiiiAi.z).a1⟩ : RA)] : List RA)).length (v2 ++ ([(⟨y2_0, (L1.getD v4 R_iiiiiiAi.z).a4, (L1.getD v4 R_iiiiiiAi.z).a1⟩ : RA)] : List RA)).length : Value) = vs 1 0 (v2.length + 1) (v2.length + 1) from (ZdF rfl eqA eqA)) (by rfl), by rfl⟩, ⟨rr, ⟨rr, ⟨rr, trivial⟩⟩⟩⟩⟩) ⟨(Zh (E := E_iiiiiiAi) (α := R_iiiiiiAi) _ L1 _), ⟨(Zh (E := Zk) (α := RA) _ (v2 ++ ([(⟨y2_0, (L1.getD v4 R_iiiiiiAi.z).a4, (L1.getD v4 R_iiiiiiAi.z).a1⟩ : RA)] : List RA)) _), trivial⟩⟩
      ·
       exact Mach.ok_none
     ·
      exact Mach.ok_none
    ·
     obtain rfl : y2_1 = false := by simpa using g3
     refine Mach.ok_ite (fun g4 => ?_) (fun g4 => ?_)
     ·
      exact Mach.ok_next (M := ZS L0 L1 N) (cd := 1000000) (cm := 0) (y := (.h1m1 (v2) ((v4 + 1)) : Zt)) (fu := 4000) (orc := (Zm [(0, true)] [(0, (((v4 + 1) : Nat) : Int))] [(0, v4)] [(0, [.i (L1.getD v4 R_iiiiiiAi.z).a0, .i (L1.getD v4 R_iiiiiiAi.z).a1, .i (L1.getD v4 R_iiiiiiAi.z).a2, .i (L1.getD v4 R_iiiiiiAi.z).a3, .i (L1.getD v4 R_iiiiiiAi.z).a4, .i (L1.getD v4 R_iiiiiiAi.z).a5, (mc E_ii (L1.getD v4 R_iiiiiiAi.z).a6), .i (L1.getD v4 R_iiiiiiAi.z).a7])] [(1, (Zbh (L0) ((L1.getD v4 R_iiiiiiAi.z).a0) ((L1.getD v4 R_iiiiiiAi.z).a1) ((L1.getD v4 R_iiiiiiAi.z).a2) ((L1.getD v4 R_iiiiiiAi.z).a3) ((L1.getD v4 R_iiiiiiAi.z).a4) ((L1.getD v4 R_iiiiiiAi.z).a5) ((L1.getD v4 R_iiiiiiAi.z).a6) ((L1.getD v4 R_iiiiiiAi.z).a7)  y2_0 false  3))])) (live := [0, 1]) (tv := fun _ => [some (ms E_iiiiii L0), some (vs 1 0 v2.length v2.length), some (vs 0 0 L1.length L1.length), some (vi (L1.length : Int)), some (vi (((v4 + 1) : Nat) : Int))]) (bl := [some (.cells (Zd E_iiiiiiAi L1) 31), some (.cells (Zd Zk v2) 45)]) (ob := [((IntKind.i64.wrap ((v4 : Int) + (1 : Int))) == (((v4 + 1) : Nat) : Int), true), (dP (ZaO #[ms E_iiiiii L0, Value.agg #[vi (L1.getD v4 R_iiiiiiAi.z).a0, vi (L1.getD v4 R_iiiiiiAi.z).a1, vi (L1.getD v4 R_iiiiiiAi.z).a2, vi (L1.getD v4 R_iiiiiiAi.z).a3, vi (L1.getD v4 R_iiiiiiAi.z).a4, vi (L1.getD v4 R_iiiiiiAi.z).a5, ms E_ii (L1.getD v4 R_iiiiiiAi.z).a6, vi (L1.getD v4 R_iiiiiiAi.z).a7]] (L0) ((L1.getD v4 R_iiiiiiAi.z).a0) ((L1.getD v4 R_iiiiiiAi.z).a1) ((L1.getD v4 R_iiiiiiAi.z).a2) ((L1.getD v4 R_iiiiiiAi.z).a3) ((L1.getD v4 R_iiiiiiAi.z).a4) ((L1.getD v4 R_iiiiiiAi.z).a5) ((L1.getD v4 R_iiiiiiAi.z).a6) ((L1.getD v4 R_iiiiiiAi.z).a7)  y2_0 false  3), true), (ZO (Zv 8 (List.drop (0 + (v4 * 8)) (Zd E_iiiiiiAi L1))) [.i (L1.getD v4 R_iiiiiiAi.z).a0, .i (L1.getD v4 R_iiiiiiAi.z).a1, .i (L1.getD v4 R_iiiiiiAi.z).a2, .i (L1.getD v4 R_iiiiiiAi.z).a3, .i (L1.getD v4 R_iiiiiiAi.z).a4, .i (L1.getD v4 R_iiiiiiAi.z).a5, (mc E_ii (L1.getD v4 R_iiiiiiAi.z).a6), .i (L1.getD v4 R_iiiiiiAi.z).a7], true), (Nat.blt v4 L1.length, true), ((v4 : Int) == Int.ofNat v4, true), ((decide ((v4 : Int) < (L1.length : Int))), true)]) rfl (show 1 ∈ Zl (Zc5 1) from by decide +kernel) (fun gv => by kernel_rfl) (Zb (beq_iff_eq.2 ((wrap_i64 ltA).trans (by first | rfl | omega))) <| Zb (Zw (Zbi #[ms E_iiiiii L0, Value.agg #[vi (L1.getD v4 R_iiiiiiAi.z).a0, vi (L1.getD v4 R_iiiiiiAi.z).a1, vi (L1.getD v4 R_iiiiiiAi.z).a2, vi (L1.getD v4 R_iiiiiiAi.z).a3, vi (L1.getD v4 R_iiiiiiAi.z).a4, vi (L1.getD v4 R_iiiiiiAi.z).a5, ms E_ii (L1.getD v4 R_iiiiiiAi.z).a6, vi (L1.getD v4 R_iiiiiiAi.z).a7]] (L0) ((L1.getD v4 R_iiiiiiAi.z).a0) ((L1.getD v4 R_iiiiiiAi.z).a1) ((L1.getD v4 R_iiiiiiAi.z).a2) ((L1.getD v4 R_iiiiiiAi.z).a3) ((L1.getD v4 R_iiiiiiAi.z).a4) ((L1.getD v4 R_iiiiiiAi.z).a5) ((L1.getD v4 R_iiiiiiAi.z).a6) ((L1.getD v4 R_iiiiiiAi.z).a7)  y2_0 false N c2  3 rfl (by decide) (by decide))) <| Zb (Zy (E := E_iiiiiiAi) (L := L1) (i := v4) (q := 0) (by omega) (show (0 + (v4 * 8)) = v4 * 8 + 0 from by omega) (show 0 + 8 ≤ 8 from by decide) rfl rfl) <| oB <| oI <| oY Zf) rfl (by decide) (by rfl) (fun _ => ⟨rr, ⟨rr, ⟨rr, ⟨rr, ⟨rr, trivial⟩⟩⟩⟩⟩) ⟨(Zh (E := E_iiiiiiAi) (α := R_iiiiiiAi) _ L1 _), ⟨(Zh (E := Zk) (α := RA) _ v2 _), trivial⟩⟩
     ·
      exact Mach.ok_none
  ·
   refine Mach.ok_bind (fun z2 c2 => ?_)
   cases z2 with
   | r0 y2_0 =>
    exact Mach.ok_fin (M := ZS L0 L1 N) (cd := 1000000) (cm := 0) (r := (.r1 (y2_0) (v2.length) : ZY)) (fu := 4000) (orc := (Zm [(0, false)] [] [] [] [(0, (ZbQ (v2)  y2_0 1 2))])) (live := [0, 1]) (u := vs 1 0 v2.length v2.length) (bl := [some (.cells (Zd E_iiiiiiAi L1) 31), some (.cells (Zd Zk y2_0) 45)]) (ob := [(dP (ZaL #[vs 1 0 v2.length v2.length, Value.func (.func 17) #[] #[]] (v2)  y2_0 1 2), true), (dS (Zd Zk v2), true), ((decide ((v4 : Int) < (L1.length : Int))), false)]) (fun gv => by kernel_rfl) (Zb (Zw (ZbR #[vs 1 0 v2.length v2.length, Value.func (.func 17) #[] #[]] (v2)  y2_0 N c2 1 2 rfl (by decide) (by decide))) <| oR <| oN Zf) rfl (by decide) (by rfl) rr ⟨(Zh (E := E_iiiiiiAi) (α := R_iiiiiiAi) _ L1 _), ⟨(Zh (E := Zk) (α := RA) _ y2_0 _), trivial⟩⟩
 ·
  exact Mach.ok_none

theorem Zhm (L0 : List RB) (L1 : List R_iiiiiiAi) (N : Nat) : (ZS L0 L1 N).Enter Tryz.prog Zx #[ms E_iiiiii L0, vs 0 0 L1.length L1.length] (ZcW L0 L1 N) := by
 unfold ZcW
 exact Mach.en_head (bK := ZaY 1) (M := ZS L0 L1 N) (cd := 1000000) (cm := 0) (y := (.h1m0 (0) : Zt)) (fu := 4000) (orc := (Zm [] [] [] [] [])) (live := [0]) (tv := [some (ms E_iiiiii L0), some (vn), some (vs 0 0 L1.length L1.length), some (vi (L1.length : Int)), some (vq)]) (bl := [some (.cells (Zd E_iiiiiiAi L1) 31)]) (ob := []) rfl rfl (show Zl (ZaY 1).2 = [] from rfl) (by kernel_rfl) Zf rfl (by decide) (by rfl) ⟨rr, ⟨rr, ⟨rr, ⟨rr, ⟨⟨Eq.trans (show (vi ((0 : Nat) : Int) : Value) = vq from (congrArg (Value.int .i64) (by first | rfl | omega))) (by rfl), by rfl⟩, trivial⟩⟩⟩⟩⟩ ⟨(Zh (E := E_iiiiiiAi) (α := R_iiiiiiAi) _ L1 _), trivial⟩

theorem Zd4 (L0 : List RB) (L1 : List R_iiiiiiAi) (N : Nat) (r : ZY) (h : Zcc L0 L1 N = some r) : LSpec Tryz.prog 11 #[ms E_iiiiii L0, vs 0 0 L1.length L1.length] [.cells (Zd E_iiiiiiAi L1) 31] (ZeM L0 L1 r) (Zej L0 L1 r) :=
 Mach.spec ZcN (ZS L0 L1 N) Tryz.func11 (by kernel_rfl) (by kernel_rfl) (fun x => by cases x <;> exact ZaQ _ rfl) (fun r => by cases r <;> exact ZaQ _ rfl) (fun x => by
  cases x with
  | h1m0 _ => exact fun _ => (show ¬ (1 ∈ Zl (ZaY 1).2) from by decide +kernel)
  | h1m1 _ _ => exact fun _ => (show ¬ (1 ∈ Zl (ZaY 1).2) from by decide +kernel)
  ) (fun x => (show (ZS L0 L1 N).Ok Tryz.prog Zx x (Za8 L0 L1 N x) from by
  cases x with
  | h1m0 v3 => exact ZfK L0 L1 v3 N
  | h1m1 v2 v4 => exact ZfL L0 L1 v2 v4 N
  )) (Zhm L0 L1 N) (n := N) h

noncomputable def ZhC (L0 : List RB) (L1 : List R_iiiiiiAi) (k0 n : Nat) : Zcn := .call [(k0, .cells (Zd E_iiiiiiAi L1) 31)] (vn) [] 0
def Zel (A : Array Value) (L0 : List RB) (L1 : List R_iiiiiiAi) (k0 n : Nat) : Prop := Zam Tryz.prog 11 A [(k0, .cells (Zd E_iiiiiiAi L1) 31)] (vn) [] n 0

theorem ZhD (A : Array Value) (L0 : List RB) (L1 : List R_iiiiiiAi) (N : Nat) (h : Zcc L0 L1 N = some (.r0)) (k0 n : Nat) (hA : A = #[ms E_iiiiii L0, vs k0 0 L1.length L1.length]) (hnd : ([k0] : List Nat).Nodup) (hlt : ∀ k ∈ ([k0] : List Nat), k < n) : Zel A L0 L1 k0 n :=
 Zb5 hA (LSpec.callL (show LSpec Tryz.prog 11 #[ms E_iiiiii L0, vs 0 0 L1.length L1.length] [.cells (Zd E_iiiiiiAi L1) 31] (vn) [some (.cells (Zd E_iiiiiiAi L1) 31)] from Zd4 L0 L1 N _ h) [k0] n [] rfl hnd hlt (show 1 ≤ 1 from by decide) (show ∀ j ∈ ([] : List Nat), j < 1 from by decide) (by rfl) ⟨(Zbp _ _ _), trivial⟩ (by rfl) ⟨(Zbp _ _ _), trivial⟩ ⟨.inr rfl, trivial⟩ rfl rfl rfl (Zat (ZbT rfl (ZcM _ _ _)) rfl) rfl)

noncomputable def ZhE (L0 : List RB) (L1 : List R_iiiiiiAi) (w1 : List RA) (w2 k0 n : Nat) : Zcn := .call [(k0, .cells (Zd E_iiiiiiAi L1) 31)] (vs n 0 w2 w2) [(n, some (.cells (Zd Zk w1) 45))] 1
def Zem (A : Array Value) (L0 : List RB) (L1 : List R_iiiiiiAi) (w1 : List RA) (w2 k0 n : Nat) : Prop := Zam Tryz.prog 11 A [(k0, .cells (Zd E_iiiiiiAi L1) 31)] (vs n 0 w2 w2) [(n, some (.cells (Zd Zk w1) 45))] n 1

theorem ZhF (A : Array Value) (L0 : List RB) (L1 : List R_iiiiiiAi) (w1 : List RA) (w2 N : Nat) (h : Zcc L0 L1 N = some (.r1 w1 w2)) (k0 n : Nat) (hA : A = #[ms E_iiiiii L0, vs k0 0 L1.length L1.length]) (hnd : ([k0] : List Nat).Nodup) (hlt : ∀ k ∈ ([k0] : List Nat), k < n) : Zem A L0 L1 w1 w2 k0 n :=
 Zb5 hA (LSpec.callL (show LSpec Tryz.prog 11 #[ms E_iiiiii L0, vs 0 0 L1.length L1.length] [.cells (Zd E_iiiiiiAi L1) 31] (vs 1 0 w2 w2) [some (.cells (Zd E_iiiiiiAi L1) 31), some (.cells (Zd Zk w1) 45)] from Zd4 L0 L1 N _ h) [k0] n [1] rfl hnd hlt (show 1 ≤ 2 from by decide) (show ∀ j ∈ ([1] : List Nat), j < 2 from by decide) (by rfl) ⟨(Zbp _ _ _), trivial⟩ (by rfl) ⟨(Zbp _ _ _), ⟨(Zbp _ _ _), trivial⟩⟩ ⟨.inr rfl, ⟨(by decide), trivial⟩⟩ rfl rfl rfl (Zat (ZbT rfl (ZcM _ _ _)) rfl) (Zat (ZbT rfl (ZfD (ZcM _ _ _))) rfl))

noncomputable def ZfM (a0 a1 a2 a3 a4 a5 a6 a7 a8 : Int) : ZI → Value
 | .r0 w0 w1 w2 w3 w4 w5 => vtt
noncomputable def Zfc (a0 a1 a2 a3 a4 a5 a6 a7 a8 : Int) : ZI → List (Option AObj)
 | .r0 w0 w1 w2 w3 w4 w5 => [some (.cells [vi w0, vi w1, vi w2] 45), some (.cells [vi w3, vi w4, vi w5] 45)]

theorem Ziw (a0 a1 a2 a3 a4 a5 a6 a7 a8 : Int) (N : Nat) : Fx Tryz.prog Zx Tryz.f12 [.cells [vi a3, vi a4, vi a5] 45, .cells [vi a6, vi a7, vi a8] 45] #[Value.agg #[vi a0, vi a1, vi a2], vp 0 0, vp 1 0] (ZfM a0 a1 a2 a3 a4 a5 a6 a7 a8) (Zfc a0 a1 a2 a3 a4 a5 a6 a7 a8) (Zbr a0 a1 a2 a3 a4 a5 a6 a7 a8 N) := by
 unfold Zbr
 refine ZfE (fun g0 => ?_) (fun g0 => ?_)
 ·
  refine ZfE (fun g1 => ?_) (fun g1 => ?_)
  ·
   exact ZeG (r := (.r0 (a0) (a1) (a2) (a6) (a7) (a8) : ZI)) (fu := 4000) (orc := (Zm [(0, true), (1, true)] [] [] [] [])) (live := [0, 1]) (u := vtt) (bl := [some (.cells [vi a0, vi a1, vi a2] 45), some (.cells [vi a6, vi a7, vi a8] 45)]) (ob := [((decide (a1 > a4)), true), ((a2 == a5), true)]) (by kernel_rfl) (oY <| oT Zf) rfl (by decide) (by rfl) rr ⟨⟨rfl, ⟨[], by rfl⟩, by rfl⟩, ⟨⟨rfl, ⟨[], by rfl⟩, by rfl⟩, trivial⟩⟩
  ·
   exact ZeG (r := (.r0 (a3) (a4) (a5) (a6) (a7) (a8) : ZI)) (fu := 4000) (orc := (Zm [(0, true), (1, false)] [] [] [] [])) (live := [0, 1]) (u := vtt) (bl := [some (.cells [vi a3, vi a4, vi a5] 45), some (.cells [vi a6, vi a7, vi a8] 45)]) (ob := [((decide (a1 > a4)), false), ((a2 == a5), true)]) (by kernel_rfl) (oN <| oT Zf) rfl (by decide) (by rfl) rr ⟨⟨rfl, ⟨[], by rfl⟩, by rfl⟩, ⟨⟨rfl, ⟨[], by rfl⟩, by rfl⟩, trivial⟩⟩
 ·
  refine ZfE (fun g1 => ?_) (fun g1 => ?_)
  ·
   refine ZfE (fun g2 => ?_) (fun g2 => ?_)
   ·
    exact ZeG (r := (.r0 (a0) (a1) (a2) (a6) (a7) (a8) : ZI)) (fu := 4000) (orc := (Zm [(0, false), (1, true), (2, true)] [] [] [] [])) (live := [0, 1]) (u := vtt) (bl := [some (.cells [vi a0, vi a1, vi a2] 45), some (.cells [vi a6, vi a7, vi a8] 45)]) (ob := [((decide (a1 > a4)), true), ((a4 == (0 : Int)), true), ((a2 == a5), false)]) (by kernel_rfl) (oY <| oT <| oF Zf) rfl (by decide) (by rfl) rr ⟨⟨rfl, ⟨[], by rfl⟩, by rfl⟩, ⟨⟨rfl, ⟨[], by rfl⟩, by rfl⟩, trivial⟩⟩
   ·
    exact ZeG (r := (.r0 (a3) (a4) (a5) (a6) (a7) (a8) : ZI)) (fu := 4000) (orc := (Zm [(0, false), (1, true), (2, false)] [] [] [] [])) (live := [0, 1]) (u := vtt) (bl := [some (.cells [vi a3, vi a4, vi a5] 45), some (.cells [vi a6, vi a7, vi a8] 45)]) (ob := [((decide (a1 > a4)), false), ((a4 == (0 : Int)), true), ((a2 == a5), false)]) (by kernel_rfl) (oN <| oT <| oF Zf) rfl (by decide) (by rfl) rr ⟨⟨rfl, ⟨[], by rfl⟩, by rfl⟩, ⟨⟨rfl, ⟨[], by rfl⟩, by rfl⟩, trivial⟩⟩
  ·
   refine ZfE (fun g2 => ?_) (fun g2 => ?_)
   ·
    exact ZeG (r := (.r0 (a0) (a1) (a2) (a3) (a4) (a5) : ZI)) (fu := 4000) (orc := (Zm [(0, false), (1, false), (2, true)] [] [] [] [])) (live := [0, 1]) (u := vtt) (bl := [some (.cells [vi a0, vi a1, vi a2] 45), some (.cells [vi a3, vi a4, vi a5] 45)]) (ob := [((decide (a1 > a4)), true), ((a4 == (0 : Int)), false), ((a2 == a5), false)]) (by kernel_rfl) (oY <| oF <| oF Zf) rfl (by decide) (by rfl) rr ⟨⟨rfl, ⟨[], by rfl⟩, by rfl⟩, ⟨⟨rfl, ⟨[], by rfl⟩, by rfl⟩, trivial⟩⟩
   ·
    refine ZfE (fun g3 => ?_) (fun g3 => ?_)
    ·
     exact ZeG (r := (.r0 (a3) (a4) (a5) (a0) (a1) (a2) : ZI)) (fu := 4000) (orc := (Zm [(0, false), (1, false), (2, false), (3, true)] [] [] [] [])) (live := [0, 1]) (u := vtt) (bl := [some (.cells [vi a3, vi a4, vi a5] 45), some (.cells [vi a0, vi a1, vi a2] 45)]) (ob := [((decide (a1 > a7)), true), ((decide (a1 > a4)), false), ((a4 == (0 : Int)), false), ((a2 == a5), false)]) (by kernel_rfl) (oY <| oN <| oF <| oF Zf) rfl (by decide) (by rfl) rr ⟨⟨rfl, ⟨[], by rfl⟩, by rfl⟩, ⟨⟨rfl, ⟨[], by rfl⟩, by rfl⟩, trivial⟩⟩
    ·
     exact ZeG (r := (.r0 (a3) (a4) (a5) (a6) (a7) (a8) : ZI)) (fu := 4000) (orc := (Zm [(0, false), (1, false), (2, false), (3, false)] [] [] [] [])) (live := [0, 1]) (u := vtt) (bl := [some (.cells [vi a3, vi a4, vi a5] 45), some (.cells [vi a6, vi a7, vi a8] 45)]) (ob := [((decide (a1 > a7)), false), ((decide (a1 > a4)), false), ((a4 == (0 : Int)), false), ((a2 == a5), false)]) (by kernel_rfl) (oN <| oN <| oF <| oF Zf) rfl (by decide) (by rfl) rr ⟨⟨rfl, ⟨[], by rfl⟩, by rfl⟩, ⟨⟨rfl, ⟨[], by rfl⟩, by rfl⟩, trivial⟩⟩

theorem Zhn (a0 a1 a2 a3 a4 a5 a6 a7 a8 : Int) (N : Nat) (r : ZI) (h : Zbr a0 a1 a2 a3 a4 a5 a6 a7 a8 N = some r) : LSpec Tryz.prog 12 #[Value.agg #[vi a0, vi a1, vi a2], vp 0 0, vp 1 0] [.cells [vi a3, vi a4, vi a5] 45, .cells [vi a6, vi a7, vi a8] 45] (ZfM a0 a1 a2 a3 a4 a5 a6 a7 a8 r) (Zfc a0 a1 a2 a3 a4 a5 a6 a7 a8 r) :=
 ZoA ZcN Tryz.func12 (by kernel_rfl) (by kernel_rfl) (fun r => by cases r <;> exact ZaQ _ rfl) (Ziw a0 a1 a2 a3 a4 a5 a6 a7 a8 N) h

noncomputable def Zfd (a0 a1 a2 a3 a4 a5 a6 a7 a8 w0 w1 w2 w3 w4 w5 : Int) (k0 k1 n : Nat) : Zcn := .call [(k0, .cells [vi a3, vi a4, vi a5] 45), (k1, .cells [vi a6, vi a7, vi a8] 45)] (vtt) [(k0, some (.cells [vi w0, vi w1, vi w2] 45)), (k1, some (.cells [vi w3, vi w4, vi w5] 45))] 0
def Zd5 (A : Array Value) (a0 a1 a2 a3 a4 a5 a6 a7 a8 w0 w1 w2 w3 w4 w5 : Int) (k0 k1 n : Nat) : Prop := Zam Tryz.prog 12 A [(k0, .cells [vi a3, vi a4, vi a5] 45), (k1, .cells [vi a6, vi a7, vi a8] 45)] (vtt) [(k0, some (.cells [vi w0, vi w1, vi w2] 45)), (k1, some (.cells [vi w3, vi w4, vi w5] 45))] n 0

theorem Zfe (A : Array Value) (a0 a1 a2 a3 a4 a5 a6 a7 a8 w0 w1 w2 w3 w4 w5 : Int) (N : Nat) (h : Zbr a0 a1 a2 a3 a4 a5 a6 a7 a8 N = some (.r0 w0 w1 w2 w3 w4 w5)) (k0 k1 n : Nat) (hA : A = #[Value.agg #[vi a0, vi a1, vi a2], vp k0 0, vp k1 0]) (hnd : ([k0, k1] : List Nat).Nodup) (hlt : ∀ k ∈ ([k0, k1] : List Nat), k < n) : Zd5 A a0 a1 a2 a3 a4 a5 a6 a7 a8 w0 w1 w2 w3 w4 w5 k0 k1 n :=
 Zb5 hA (LSpec.callL (show LSpec Tryz.prog 12 #[Value.agg #[vi a0, vi a1, vi a2], vp 0 0, vp 1 0] [.cells [vi a3, vi a4, vi a5] 45, .cells [vi a6, vi a7, vi a8] 45] (vtt) [some (.cells [vi w0, vi w1, vi w2] 45), some (.cells [vi w3, vi w4, vi w5] 45)] from Zhn a0 a1 a2 a3 a4 a5 a6 a7 a8 N _ h) [k0, k1] n [0, 1] rfl hnd hlt (show 2 ≤ 2 from by decide) (show ∀ j ∈ ([0, 1] : List Nat), j < 2 from by decide) (by rfl) ⟨rfl, ⟨rfl, trivial⟩⟩ (by rfl) ⟨rfl, ⟨rfl, trivial⟩⟩ ⟨.inl (by decide), ⟨.inl (by decide), trivial⟩⟩ rfl rfl rfl (Zat (ZbT rfl rfl) (Zat (ZbT rfl rfl) rfl)) (Zat (ZbT rfl (ZfD rfl)) (Zat (ZbT rfl (ZfD rfl)) rfl)))

noncomputable def ZfN (L0 : List RB) (L1 : List R_iiiiiiAi) : Zq → Value
 | .r0 w1 => vi w1
noncomputable def Zff (L0 : List RB) (L1 : List R_iiiiiiAi) : Zq → List (Option AObj)
 | .r0 w1 => [some (.cells (Zd E_iiiiiiAi L1) 31)]

def Zja : Zc → Nat
 | .h1m0 v3 => 1
 | .h1m1 v1 v2 v5 => 1
 | .h1m2 v1 v2 v3 v6 v7 v8 v9 v10 v11 v12 => 1
 | .h2m0 v1 v4 v11 v12 v13 v14 v15 v16 => 2
 | .h2m1 v1 v2 v3 v6 v13 v14 v15 v16 v17 v18 => 2
 | .h2m2 v1 v2 v3 v4 v7 v8 v9 v10 v11 v12 v13 v14 v15 v16 v17 v18 v19 => 2
noncomputable def Zjx (L0 : List RB) (L1 : List R_iiiiiiAi) : Zc → List (Nat × Value)
 | .h1m0 v3 => [(5, vn), (6, vp 1 0), (7, vp 2 0), (8, Value.func (.func 12) #[] #[vp 1 0, vp 2 0]), (16, ms E_iiiiii L0), (17, vi (L0.length : Int)), (18, vi (v3 : Int))]
 | .h1m1 v1 v2 v5 => [(5, vs 1 0 v2 v2), (6, vp 2 0), (7, vp 3 0), (8, Value.func (.func 12) #[] #[vp 2 0, vp 3 0]), (16, ms E_iiiiii L0), (17, vi (L0.length : Int)), (18, vi (v5 : Int))]
 | .h1m2 v1 v2 v3 v6 v7 v8 v9 v10 v11 v12 => [(5, vs 1 (v2 * 3) v3 v3), (6, vp 2 0), (7, vp 3 0), (8, Value.func (.func 12) #[] #[vp 2 0, vp 3 0]), (16, ms E_iiiiii L0), (17, vi (L0.length : Int)), (18, vi (v6 : Int))]
 | .h2m0 v1 v4 v11 v12 v13 v14 v15 v16 => [(5, vn), (6, vp 1 0), (7, vp 2 0), (8, Value.func (.func 12) #[] #[vp 1 0, vp 2 0]), (9, vi (v1 : Int)), (10, vp 3 0), (16, ms E_iiiiii L0), (17, vi (L0.length : Int)), (18, vi (v4 : Int))]
 | .h2m1 v1 v2 v3 v6 v13 v14 v15 v16 v17 v18 => [(5, vs 1 0 v2 v2), (6, vp 2 0), (7, vp 3 0), (8, Value.func (.func 12) #[] #[vp 2 0, vp 3 0]), (9, vi (v3 : Int)), (10, vp 4 0), (16, ms E_iiiiii L0), (17, vi (L0.length : Int)), (18, vi (v6 : Int))]
 | .h2m2 v1 v2 v3 v4 v7 v8 v9 v10 v11 v12 v13 v14 v15 v16 v17 v18 v19 => [(5, vs 1 (v2 * 3) v3 v3), (6, vp 2 0), (7, vp 3 0), (8, Value.func (.func 12) #[] #[vp 2 0, vp 3 0]), (9, vi (v4 : Int)), (10, vp 4 0), (16, ms E_iiiiii L0), (17, vi (L0.length : Int)), (18, vi (v7 : Int))]
noncomputable def Zjy (L0 : List RB) (L1 : List R_iiiiiiAi) : Zc → List (Option AObj)
 | .h1m0 v3 => [some (.cells (Zd E_iiiiiiAi L1) 31), some (.cells [vq, vq, vq] 45), some (.cells [vq, vq, vq] 45)]
 | .h1m1 v1 v2 v5 => [some (.cells (Zd E_iiiiiiAi L1) 31), some (.cells (Zd Zk v1) 45), some (.cells [vq, vq, vq] 45), some (.cells [vq, vq, vq] 45)]
 | .h1m2 v1 v2 v3 v6 v7 v8 v9 v10 v11 v12 => [some (.cells (Zd E_iiiiiiAi L1) 31), some (.cells (Zd Zk v1) 45), some (.cells [vi v7, vi v8, vi v9] 45), some (.cells [vi v10, vi v11, vi v12] 45)]
 | .h2m0 v1 v4 v11 v12 v13 v14 v15 v16 => [some (.cells (Zd E_iiiiiiAi L1) 31), some (.cells [vq, vq, vq] 45), some (.cells [vq, vq, vq] 45), some (.cells [vi v11, vi v12, vi v13, vi v14, vi v15, vi v16] 41)]
 | .h2m1 v1 v2 v3 v6 v13 v14 v15 v16 v17 v18 => [some (.cells (Zd E_iiiiiiAi L1) 31), some (.cells (Zd Zk v1) 45), some (.cells [vq, vq, vq] 45), some (.cells [vq, vq, vq] 45), some (.cells [vi v13, vi v14, vi v15, vi v16, vi v17, vi v18] 41)]
 | .h2m2 v1 v2 v3 v4 v7 v8 v9 v10 v11 v12 v13 v14 v15 v16 v17 v18 v19 => [some (.cells (Zd E_iiiiiiAi L1) 31), some (.cells (Zd Zk v1) 45), some (.cells [vi v8, vi v9, vi v10] 45), some (.cells [vi v11, vi v12, vi v13] 45), some (.cells [vi v14, vi v15, vi v16, vi v17, vi v18, vi v19] 41)]

noncomputable def ZB : Nat → Code × List Zaw
 | 1 => ZaP [1, 2, 1, 1, 1, 1, 0, 1, 3] (Zb9 Tryz.f7) []
 | 2 => ZaP [1, 2, 1, 1, 1, 1, 0, 1, 3, 7, 1, 1, 0, 3, 1, 0, 3] (Zb9 Tryz.f7) []
 | _ => (.skip, [])
def Zfg : Nat → Bool
 | 1 => true
 | 2 => true
 | _ => true
noncomputable def Zn (i : Nat) : List Zaw := match Zfg i with | true => .rnd i :: (ZB i).2 | false => (ZB i).2

noncomputable def Zg (L0 : List RB) (L1 : List R_iiiiiiAi) (N : Nat) : Mach := ⟨Tryz.f7, [.cells (Zd E_iiiiiiAi L1) 31], Zc, Zq, Zs L0 L1 N, Zja, ZB, Zfg, Zjx L0 L1, Zjy L0 L1, ZfN L0 L1, Zff L0 L1⟩

theorem Zg2 (L0 : List RB) (L1 : List R_iiiiiiAi) (v3 N : Nat) : (Zg L0 L1 N).Ok Tryz.prog Zx (.h1m0 v3 : Zc) (Zs L0 L1 N (.h1m0 v3 : Zc)) := by
 show (Zg L0 L1 N).Ok Tryz.prog Zx (.h1m0 v3 : Zc) (ZaD L0 L1 N v3)
 unfold ZaD
 refine Mach.ok_ite (fun g0 => ?_) (fun g0 => ?_)
 ·
  refine Mach.ok_ite (fun g1 => ?_) (fun g1 => ?_)
  ·
   exact Mach.ok_head (bK := ZB 2) (M := Zg L0 L1 N) (cd := 1000000) (cm := 0) (y := (.h2m0 (v3) (v3) ((L0.getD v3 RB.z).a0) ((L0.getD v3 RB.z).a1) ((L0.getD v3 RB.z).a2) ((L0.getD v3 RB.z).a3) ((L0.getD v3 RB.z).a4) ((L0.getD v3 RB.z).a5) : Zc)) (fu := 4000) (orc := (Zm [(0, true)] [] [(0, v3)] [(0, [.i (L0.getD v3 RB.z).a0, .i (L0.getD v3 RB.z).a1, .i (L0.getD v3 RB.z).a2, .i (L0.getD v3 RB.z).a3, .i (L0.getD v3 RB.z).a4, .i (L0.getD v3 RB.z).a5])] [])) (live := [0, 1, 2, 3]) (tv := fun _ => [some (vn), some (vp 1 0), some (vp 2 0), some (Value.func (.func 12) #[] #[vp 1 0, vp 2 0]), some (vi (v3 : Int)), some (vp 3 0), some (ms E_iiiiii L0), some (vi (L0.length : Int)), some (vi (v3 : Int))]) (bl := [some (.cells (Zd E_iiiiiiAi L1) 31), some (.cells [vq, vq, vq] 45), some (.cells [vq, vq, vq] 45), some (.cells [vi (L0.getD v3 RB.z).a0, vi (L0.getD v3 RB.z).a1, vi (L0.getD v3 RB.z).a2, vi (L0.getD v3 RB.z).a3, vi (L0.getD v3 RB.z).a4, vi (L0.getD v3 RB.z).a5] 41)]) (ob := [(dP (ZV (code (Z6 E_iiiiii L0)) (0 + (v3 * 6)) 6 = some [.i (L0.getD v3 RB.z).a0, .i (L0.getD v3 RB.z).a1, .i (L0.getD v3 RB.z).a2, .i (L0.getD v3 RB.z).a3, .i (L0.getD v3 RB.z).a4, .i (L0.getD v3 RB.z).a5]), true), (Nat.blt v3 L0.length, true), ((v3 : Int) == Int.ofNat v3, true), ((decide ((v3 : Int) < (L0.length : Int))), true)]) rfl rfl (show ∀ j ∈ Zl (ZB 2).2, j ∈ Zl (Zn 1) from by decide +kernel) (fun gv => by kernel_rfl) (Zb (Zw (ZJ (E := E_iiiiii) (L := L0) (i := v3) (q := 0) (by omega) (show (0 + (v3 * 6)) = v3 * 6 + 0 from by omega) (show 0 + 6 ≤ 6 from by decide) rfl)) <| oB <| oI <| oY Zf) rfl (by decide) (by rfl) (fun _ => ⟨rr, ⟨rr, ⟨rr, ⟨rr, ⟨rr, ⟨rr, ⟨rr, ⟨rr, ⟨rr, trivial⟩⟩⟩⟩⟩⟩⟩⟩⟩) ⟨(Zh (E := E_iiiiiiAi) (α := R_iiiiiiAi) _ L1 _), ⟨⟨rfl, ⟨[], by rfl⟩, by rfl⟩, ⟨⟨rfl, ⟨[], by rfl⟩, by rfl⟩, ⟨⟨rfl, ⟨[], by rfl⟩, by rfl⟩, trivial⟩⟩⟩⟩
  ·
   exact Mach.ok_fin (M := Zg L0 L1 N) (cd := 1000000) (cm := 0) (r := (.r0 ((0 : Int)) : Zq)) (fu := 4000) (orc := (Zm [(0, false)] [] [] [] [])) (live := [0]) (u := vq) (bl := [some (.cells (Zd E_iiiiiiAi L1) 31)]) (ob := [((decide ((v3 : Int) < (L0.length : Int))), false)]) (fun gv => by kernel_rfl) (oN Zf) rfl (by decide) (by rfl) rr ⟨(Zh (E := E_iiiiiiAi) (α := R_iiiiiiAi) _ L1 _), trivial⟩
 ·
  exact Mach.ok_none

theorem Zg3 (L0 : List RB) (L1 : List R_iiiiiiAi) (v1 : List RA) (v2 v5 N : Nat) : (Zg L0 L1 N).Ok Tryz.prog Zx (.h1m1 v1 v2 v5 : Zc) (Zs L0 L1 N (.h1m1 v1 v2 v5 : Zc)) := by
 show (Zg L0 L1 N).Ok Tryz.prog Zx (.h1m1 v1 v2 v5 : Zc) (ZaE L0 L1 N v1 v2 v5)
 unfold ZaE
 refine Mach.ok_ite (fun g0 => ?_) (fun g0 => ?_)
 ·
  refine Mach.ok_ite (fun g1 => ?_) (fun g1 => ?_)
  ·
   exact Mach.ok_head (bK := ZB 2) (M := Zg L0 L1 N) (cd := 1000000) (cm := 0) (y := (.h2m1 (v1) (v2) (v5) (v5) ((L0.getD v5 RB.z).a0) ((L0.getD v5 RB.z).a1) ((L0.getD v5 RB.z).a2) ((L0.getD v5 RB.z).a3) ((L0.getD v5 RB.z).a4) ((L0.getD v5 RB.z).a5) : Zc)) (fu := 4000) (orc := (Zm [(0, true)] [] [(0, v5)] [(0, [.i (L0.getD v5 RB.z).a0, .i (L0.getD v5 RB.z).a1, .i (L0.getD v5 RB.z).a2, .i (L0.getD v5 RB.z).a3, .i (L0.getD v5 RB.z).a4, .i (L0.getD v5 RB.z).a5])] [])) (live := [0, 1, 2, 3, 4]) (tv := fun _ => [some (vs 1 0 v2 v2), some (vp 2 0), some (vp 3 0), some (Value.func (.func 12) #[] #[vp 2 0, vp 3 0]), some (vi (v5 : Int)), some (vp 4 0), some (ms E_iiiiii L0), some (vi (L0.length : Int)), some (vi (v5 : Int))]) (bl := [some (.cells (Zd E_iiiiiiAi L1) 31), some (.cells (Zd Zk v1) 45), some (.cells [vq, vq, vq] 45), some (.cells [vq, vq, vq] 45), some (.cells [vi (L0.getD v5 RB.z).a0, vi (L0.getD v5 RB.z).a1, vi (L0.getD v5 RB.z).a2, vi (L0.getD v5 RB.z).a3, vi (L0.getD v5 RB.z).a4, vi (L0.getD v5 RB.z).a5] 41)]) (ob := [(dP (ZV (code (Z6 E_iiiiii L0)) (0 + (v5 * 6)) 6 = some [.i (L0.getD v5 RB.z).a0, .i (L0.getD v5 RB.z).a1, .i (L0.getD v5 RB.z).a2, .i (L0.getD v5 RB.z).a3, .i (L0.getD v5 RB.z).a4, .i (L0.getD v5 RB.z).a5]), true), (Nat.blt v5 L0.length, true), ((v5 : Int) == Int.ofNat v5, true), ((decide ((v5 : Int) < (L0.length : Int))), true)]) rfl rfl (show ∀ j ∈ Zl (ZB 2).2, j ∈ Zl (Zn 1) from by decide +kernel) (fun gv => by kernel_rfl) (Zb (Zw (ZJ (E := E_iiiiii) (L := L0) (i := v5) (q := 0) (by omega) (show (0 + (v5 * 6)) = v5 * 6 + 0 from by omega) (show 0 + 6 ≤ 6 from by decide) rfl)) <| oB <| oI <| oY Zf) rfl (by decide) (by rfl) (fun _ => ⟨rr, ⟨rr, ⟨rr, ⟨rr, ⟨rr, ⟨rr, ⟨rr, ⟨rr, ⟨rr, trivial⟩⟩⟩⟩⟩⟩⟩⟩⟩) ⟨(Zh (E := E_iiiiiiAi) (α := R_iiiiiiAi) _ L1 _), ⟨(Zh (E := Zk) (α := RA) _ v1 _), ⟨⟨rfl, ⟨[], by rfl⟩, by rfl⟩, ⟨⟨rfl, ⟨[], by rfl⟩, by rfl⟩, ⟨⟨rfl, ⟨[], by rfl⟩, by rfl⟩, trivial⟩⟩⟩⟩⟩
  ·
   exact Mach.ok_fin (M := Zg L0 L1 N) (cd := 1000000) (cm := 0) (r := (.r0 ((0 : Int)) : Zq)) (fu := 4000) (orc := (Zm [(0, false)] [] [] [] [])) (live := [0]) (u := vq) (bl := [some (.cells (Zd E_iiiiiiAi L1) 31)]) (ob := [((decide ((v5 : Int) < (L0.length : Int))), false)]) (fun gv => by kernel_rfl) (oN Zf) rfl (by decide) (by rfl) rr ⟨(Zh (E := E_iiiiiiAi) (α := R_iiiiiiAi) _ L1 _), trivial⟩
 ·
  exact Mach.ok_none

theorem Zg4 (L0 : List RB) (L1 : List R_iiiiiiAi) (v1 : List RA) (v2 v3 v6 : Nat) (v7 v8 v9 v10 v11 v12 : Int) (N : Nat) : (Zg L0 L1 N).Ok Tryz.prog Zx (.h1m2 v1 v2 v3 v6 v7 v8 v9 v10 v11 v12 : Zc) (Zs L0 L1 N (.h1m2 v1 v2 v3 v6 v7 v8 v9 v10 v11 v12 : Zc)) := by
 show (Zg L0 L1 N).Ok Tryz.prog Zx (.h1m2 v1 v2 v3 v6 v7 v8 v9 v10 v11 v12 : Zc) (ZaF L0 L1 N v1 v2 v3 v6 v7 v8 v9 v10 v11 v12)
 unfold ZaF
 refine Mach.ok_ite (fun g0 => ?_) (fun g0 => ?_)
 ·
  refine Mach.ok_ite (fun g1 => ?_) (fun g1 => ?_)
  ·
   exact Mach.ok_head (bK := ZB 2) (M := Zg L0 L1 N) (cd := 1000000) (cm := 0) (y := (.h2m2 (v1) (v2) (v3) (v6) (v6) (v7) (v8) (v9) (v10) (v11) (v12) ((L0.getD v6 RB.z).a0) ((L0.getD v6 RB.z).a1) ((L0.getD v6 RB.z).a2) ((L0.getD v6 RB.z).a3) ((L0.getD v6 RB.z).a4) ((L0.getD v6 RB.z).a5) : Zc)) (fu := 4000) (orc := (Zm [(0, true)] [] [(0, v6)] [(0, [.i (L0.getD v6 RB.z).a0, .i (L0.getD v6 RB.z).a1, .i (L0.getD v6 RB.z).a2, .i (L0.getD v6 RB.z).a3, .i (L0.getD v6 RB.z).a4, .i (L0.getD v6 RB.z).a5])] [])) (live := [0, 1, 2, 3, 4]) (tv := fun _ => [some (vs 1 (v2 * 3) v3 v3), some (vp 2 0), some (vp 3 0), some (Value.func (.func 12) #[] #[vp 2 0, vp 3 0]), some (vi (v6 : Int)), some (vp 4 0), some (ms E_iiiiii L0), some (vi (L0.length : Int)), some (vi (v6 : Int))]) (bl := [some (.cells (Zd E_iiiiiiAi L1) 31), some (.cells (Zd Zk v1) 45), some (.cells [vi v7, vi v8, vi v9] 45), some (.cells [vi v10, vi v11, vi v12] 45), some (.cells [vi (L0.getD v6 RB.z).a0, vi (L0.getD v6 RB.z).a1, vi (L0.getD v6 RB.z).a2, vi (L0.getD v6 RB.z).a3, vi (L0.getD v6 RB.z).a4, vi (L0.getD v6 RB.z).a5] 41)]) (ob := [(dP (ZV (code (Z6 E_iiiiii L0)) (0 + (v6 * 6)) 6 = some [.i (L0.getD v6 RB.z).a0, .i (L0.getD v6 RB.z).a1, .i (L0.getD v6 RB.z).a2, .i (L0.getD v6 RB.z).a3, .i (L0.getD v6 RB.z).a4, .i (L0.getD v6 RB.z).a5]), true), (Nat.blt v6 L0.length, true), ((v6 : Int) == Int.ofNat v6, true), ((decide ((v6 : Int) < (L0.length : Int))), true)]) rfl rfl (show ∀ j ∈ Zl (ZB 2).2, j ∈ Zl (Zn 1) from by decide +kernel) (fun gv => by kernel_rfl) (Zb (Zw (ZJ (E := E_iiiiii) (L := L0) (i := v6) (q := 0) (by omega) (show (0 + (v6 * 6)) = v6 * 6 + 0 from by omega) (show 0 + 6 ≤ 6 from by decide) rfl)) <| oB <| oI <| oY Zf) rfl (by decide) (by rfl) (fun _ => ⟨rr, ⟨rr, ⟨rr, ⟨rr, ⟨rr, ⟨rr, ⟨rr, ⟨rr, ⟨rr, trivial⟩⟩⟩⟩⟩⟩⟩⟩⟩) ⟨(Zh (E := E_iiiiiiAi) (α := R_iiiiiiAi) _ L1 _), ⟨(Zh (E := Zk) (α := RA) _ v1 _), ⟨⟨rfl, ⟨[], by rfl⟩, by rfl⟩, ⟨⟨rfl, ⟨[], by rfl⟩, by rfl⟩, ⟨⟨rfl, ⟨[], by rfl⟩, by rfl⟩, trivial⟩⟩⟩⟩⟩
  ·
   exact Mach.ok_fin (M := Zg L0 L1 N) (cd := 1000000) (cm := 0) (r := (.r0 ((0 : Int)) : Zq)) (fu := 4000) (orc := (Zm [(0, false)] [] [] [] [])) (live := [0]) (u := vq) (bl := [some (.cells (Zd E_iiiiiiAi L1) 31)]) (ob := [((decide ((v6 : Int) < (L0.length : Int))), false)]) (fun gv => by kernel_rfl) (oN Zf) rfl (by decide) (by rfl) rr ⟨(Zh (E := E_iiiiiiAi) (α := R_iiiiiiAi) _ L1 _), trivial⟩
 ·
  exact Mach.ok_none

theorem Zg5 (L0 : List RB) (L1 : List R_iiiiiiAi) (v1 v4 : Nat) (v11 v12 v13 v14 v15 v16 : Int) (N : Nat) : (Zg L0 L1 N).Ok Tryz.prog Zx (.h2m0 v1 v4 v11 v12 v13 v14 v15 v16 : Zc) (Zs L0 L1 N (.h2m0 v1 v4 v11 v12 v13 v14 v15 v16 : Zc)) := by
 show (Zg L0 L1 N).Ok Tryz.prog Zx (.h2m0 v1 v4 v11 v12 v13 v14 v15 v16 : Zc) (Zb0 L0 L1 N v1 v4 v11 v12 v13 v14 v15 v16)
 unfold Zb0
 refine Mach.ok_ite (fun g0 => ?_) (fun g0 => ?_)
 ·
  by_cases g1 : ¬ (v11 = (5 : Int))
  ·
   by_cases g2 : ¬ (v11 = (10 : Int))
   ·
    refine Mach.ok_ite (fun g3 => ?_) (fun g3 => ?_)
    ·
     exact Mach.ok_next (M := Zg L0 L1 N) (cd := 1000000) (cm := 0) (y := (.h1m0 ((v4 + 1)) : Zc)) (fu := 4000) (orc := (Zm [(1, true), (2, true)] [(0, (((v4 + 1) : Nat) : Int))] [] [] [])) (live := [0, 1, 2]) (tv := fun _ => [some (vn), some (vp 1 0), some (vp 2 0), some (Value.func (.func 12) #[] #[vp 1 0, vp 2 0]), some (ms E_iiiiii L0), some (vi (L0.length : Int)), some (vi (((v4 + 1) : Nat) : Int))]) (bl := [some (.cells (Zd E_iiiiiiAi L1) 31), some (.cells [vq, vq, vq] 45), some (.cells [vq, vq, vq] 45)]) (ob := [((IntKind.i64.wrap ((v4 : Int) + (1 : Int))) == (((v4 + 1) : Nat) : Int), true), ((v11 != (10 : Int)), true), ((v11 != (5 : Int)), true)]) rfl (show 1 ∈ Zl (Zn 2) from by decide +kernel) (fun gv => by kernel_rfl) (Zb (beq_iff_eq.2 ((wrap_i64 ltA).trans (by first | rfl | omega))) <| oD <| oD Zf) rfl (by decide) (by rfl) (fun _ => ⟨rr, ⟨rr, ⟨rr, ⟨rr, ⟨rr, ⟨rr, ⟨rr, trivial⟩⟩⟩⟩⟩⟩⟩) ⟨(Zh (E := E_iiiiiiAi) (α := R_iiiiiiAi) _ L1 _), ⟨⟨rfl, ⟨[], by rfl⟩, by rfl⟩, ⟨⟨rfl, ⟨[], by rfl⟩, by rfl⟩, trivial⟩⟩⟩
    ·
     exact Mach.ok_none
   ·
    by_cases g3 : v16 ≤ (0 : Int)
    ·
     refine Mach.ok_ite (fun g4 => ?_) (fun g4 => ?_)
     ·
      exact Mach.ok_next (M := Zg L0 L1 N) (cd := 1000000) (cm := 0) (y := (.h1m0 ((v4 + 1)) : Zc)) (fu := 4000) (orc := (Zm [(1, true), (2, false), (3, true)] [(0, (((v4 + 1) : Nat) : Int))] [] [] [])) (live := [0, 1, 2]) (tv := fun _ => [some (vn), some (vp 1 0), some (vp 2 0), some (Value.func (.func 12) #[] #[vp 1 0, vp 2 0]), some (ms E_iiiiii L0), some (vi (L0.length : Int)), some (vi (((v4 + 1) : Nat) : Int))]) (bl := [some (.cells (Zd E_iiiiiiAi L1) 31), some (.cells [vq, vq, vq] 45), some (.cells [vq, vq, vq] 45)]) (ob := [((IntKind.i64.wrap ((v4 : Int) + (1 : Int))) == (((v4 + 1) : Nat) : Int), true), ((decide (v16 ≤ (0 : Int))), true), ((v11 != (10 : Int)), false), ((v11 != (5 : Int)), true)]) rfl (show 1 ∈ Zl (Zn 2) from by decide +kernel) (fun gv => by kernel_rfl) (Zb (beq_iff_eq.2 ((wrap_i64 ltA).trans (by first | rfl | omega))) <| oY <| oE <| oD Zf) rfl (by decide) (by rfl) (fun _ => ⟨rr, ⟨rr, ⟨rr, ⟨rr, ⟨rr, ⟨rr, ⟨rr, trivial⟩⟩⟩⟩⟩⟩⟩) ⟨(Zh (E := E_iiiiiiAi) (α := R_iiiiiiAi) _ L1 _), ⟨⟨rfl, ⟨[], by rfl⟩, by rfl⟩, ⟨⟨rfl, ⟨[], by rfl⟩, by rfl⟩, trivial⟩⟩⟩
     ·
      exact Mach.ok_none
    ·
     by_cases g4 : v12 = (0 : Int)
     ·
      refine Mach.ok_ite (fun g5 => ?_) (fun g5 => ?_)
      ·
       exact Mach.ok_next (M := Zg L0 L1 N) (cd := 1000000) (cm := 0) (y := (.h1m0 ((v4 + 1)) : Zc)) (fu := 4000) (orc := (Zm [(1, true), (2, false), (3, false), (4, true), (5, false)] [(0, (((v4 + 1) : Nat) : Int))] [] [] [])) (live := [0, 1, 2]) (tv := fun _ => [some (vn), some (vp 1 0), some (vp 2 0), some (Value.func (.func 12) #[] #[vp 1 0, vp 2 0]), some (ms E_iiiiii L0), some (vi (L0.length : Int)), some (vi (((v4 + 1) : Nat) : Int))]) (bl := [some (.cells (Zd E_iiiiiiAi L1) 31), some (.cells [vq, vq, vq] 45), some (.cells [vq, vq, vq] 45)]) (ob := [((IntKind.i64.wrap ((v4 : Int) + (1 : Int))) == (((v4 + 1) : Nat) : Int), true), ((decide (v16 < (0 : Int))), false), ((v12 == (0 : Int)), true), ((decide (v16 ≤ (0 : Int))), false), ((v11 != (10 : Int)), false), ((v11 != (5 : Int)), true)]) rfl (show 1 ∈ Zl (Zn 2) from by decide +kernel) (fun gv => by kernel_rfl) (Zb (beq_iff_eq.2 ((wrap_i64 ltA).trans (by first | rfl | omega))) <| oN <| oT <| oN <| oE <| oD Zf) rfl (by decide) (by rfl) (fun _ => ⟨rr, ⟨rr, ⟨rr, ⟨rr, ⟨rr, ⟨rr, ⟨rr, trivial⟩⟩⟩⟩⟩⟩⟩) ⟨(Zh (E := E_iiiiiiAi) (α := R_iiiiiiAi) _ L1 _), ⟨⟨rfl, ⟨[], by rfl⟩, by rfl⟩, ⟨⟨rfl, ⟨[], by rfl⟩, by rfl⟩, trivial⟩⟩⟩
      ·
       exact Mach.ok_none
     ·
      refine Mach.ok_ite (fun g5 => ?_) (fun g5 => ?_)
      ·
       exact Mach.ok_next (M := Zg L0 L1 N) (cd := 1000000) (cm := 0) (y := (.h1m0 ((v4 + 1)) : Zc)) (fu := 4000) (orc := (Zm [(1, true), (2, false), (3, false), (4, false), (5, false)] [(0, (((v4 + 1) : Nat) : Int))] [] [] [])) (live := [0, 1, 2]) (tv := fun _ => [some (vn), some (vp 1 0), some (vp 2 0), some (Value.func (.func 12) #[] #[vp 1 0, vp 2 0]), some (ms E_iiiiii L0), some (vi (L0.length : Int)), some (vi (((v4 + 1) : Nat) : Int))]) (bl := [some (.cells (Zd E_iiiiiiAi L1) 31), some (.cells [vq, vq, vq] 45), some (.cells [vq, vq, vq] 45)]) (ob := [((IntKind.i64.wrap ((v4 : Int) + (1 : Int))) == (((v4 + 1) : Nat) : Int), true), ((decide (v16 < (0 : Int))), false), ((v12 == (0 : Int)), false), ((decide (v16 ≤ (0 : Int))), false), ((v11 != (10 : Int)), false), ((v11 != (5 : Int)), true)]) rfl (show 1 ∈ Zl (Zn 2) from by decide +kernel) (fun gv => by kernel_rfl) (Zb (beq_iff_eq.2 ((wrap_i64 ltA).trans (by first | rfl | omega))) <| oN <| oF <| oN <| oE <| oD Zf) rfl (by decide) (by rfl) (fun _ => ⟨rr, ⟨rr, ⟨rr, ⟨rr, ⟨rr, ⟨rr, ⟨rr, trivial⟩⟩⟩⟩⟩⟩⟩) ⟨(Zh (E := E_iiiiiiAi) (α := R_iiiiiiAi) _ L1 _), ⟨⟨rfl, ⟨[], by rfl⟩, by rfl⟩, ⟨⟨rfl, ⟨[], by rfl⟩, by rfl⟩, trivial⟩⟩⟩
      ·
       exact Mach.ok_none
  ·
   by_cases g2 : v16 ≤ (0 : Int)
   ·
    refine Mach.ok_ite (fun g3 => ?_) (fun g3 => ?_)
    ·
     exact Mach.ok_next (M := Zg L0 L1 N) (cd := 1000000) (cm := 0) (y := (.h1m0 ((v4 + 1)) : Zc)) (fu := 4000) (orc := (Zm [(1, false), (2, true)] [(0, (((v4 + 1) : Nat) : Int))] [] [] [])) (live := [0, 1, 2]) (tv := fun _ => [some (vn), some (vp 1 0), some (vp 2 0), some (Value.func (.func 12) #[] #[vp 1 0, vp 2 0]), some (ms E_iiiiii L0), some (vi (L0.length : Int)), some (vi (((v4 + 1) : Nat) : Int))]) (bl := [some (.cells (Zd E_iiiiiiAi L1) 31), some (.cells [vq, vq, vq] 45), some (.cells [vq, vq, vq] 45)]) (ob := [((IntKind.i64.wrap ((v4 : Int) + (1 : Int))) == (((v4 + 1) : Nat) : Int), true), ((decide (v16 ≤ (0 : Int))), true), ((v11 != (5 : Int)), false)]) rfl (show 1 ∈ Zl (Zn 2) from by decide +kernel) (fun gv => by kernel_rfl) (Zb (beq_iff_eq.2 ((wrap_i64 ltA).trans (by first | rfl | omega))) <| oY <| oE Zf) rfl (by decide) (by rfl) (fun _ => ⟨rr, ⟨rr, ⟨rr, ⟨rr, ⟨rr, ⟨rr, ⟨rr, trivial⟩⟩⟩⟩⟩⟩⟩) ⟨(Zh (E := E_iiiiiiAi) (α := R_iiiiiiAi) _ L1 _), ⟨⟨rfl, ⟨[], by rfl⟩, by rfl⟩, ⟨⟨rfl, ⟨[], by rfl⟩, by rfl⟩, trivial⟩⟩⟩
    ·
     exact Mach.ok_none
   ·
    by_cases g3 : v12 = (0 : Int)
    ·
     refine Mach.ok_ite (fun g4 => ?_) (fun g4 => ?_)
     ·
      exact Mach.ok_next (M := Zg L0 L1 N) (cd := 1000000) (cm := 0) (y := (.h1m0 ((v4 + 1)) : Zc)) (fu := 4000) (orc := (Zm [(1, false), (2, false), (3, true), (4, false)] [(0, (((v4 + 1) : Nat) : Int))] [] [] [])) (live := [0, 1, 2]) (tv := fun _ => [some (vn), some (vp 1 0), some (vp 2 0), some (Value.func (.func 12) #[] #[vp 1 0, vp 2 0]), some (ms E_iiiiii L0), some (vi (L0.length : Int)), some (vi (((v4 + 1) : Nat) : Int))]) (bl := [some (.cells (Zd E_iiiiiiAi L1) 31), some (.cells [vq, vq, vq] 45), some (.cells [vq, vq, vq] 45)]) (ob := [((IntKind.i64.wrap ((v4 : Int) + (1 : Int))) == (((v4 + 1) : Nat) : Int), true), ((decide (v16 < (0 : Int))), false), ((v12 == (0 : Int)), true), ((decide (v16 ≤ (0 : Int))), false), ((v11 != (5 : Int)), false)]) rfl (show 1 ∈ Zl (Zn 2) from by decide +kernel) (fun gv => by kernel_rfl) (Zb (beq_iff_eq.2 ((wrap_i64 ltA).trans (by first | rfl | omega))) <| oN <| oT <| oN <| oE Zf) rfl (by decide) (by rfl) (fun _ => ⟨rr, ⟨rr, ⟨rr, ⟨rr, ⟨rr, ⟨rr, ⟨rr, trivial⟩⟩⟩⟩⟩⟩⟩) ⟨(Zh (E := E_iiiiiiAi) (α := R_iiiiiiAi) _ L1 _), ⟨⟨rfl, ⟨[], by rfl⟩, by rfl⟩, ⟨⟨rfl, ⟨[], by rfl⟩, by rfl⟩, trivial⟩⟩⟩
     ·
      exact Mach.ok_none
    ·
     refine Mach.ok_ite (fun g4 => ?_) (fun g4 => ?_)
     ·
      exact Mach.ok_next (M := Zg L0 L1 N) (cd := 1000000) (cm := 0) (y := (.h1m0 ((v4 + 1)) : Zc)) (fu := 4000) (orc := (Zm [(1, false), (2, false), (3, false), (4, false)] [(0, (((v4 + 1) : Nat) : Int))] [] [] [])) (live := [0, 1, 2]) (tv := fun _ => [some (vn), some (vp 1 0), some (vp 2 0), some (Value.func (.func 12) #[] #[vp 1 0, vp 2 0]), some (ms E_iiiiii L0), some (vi (L0.length : Int)), some (vi (((v4 + 1) : Nat) : Int))]) (bl := [some (.cells (Zd E_iiiiiiAi L1) 31), some (.cells [vq, vq, vq] 45), some (.cells [vq, vq, vq] 45)]) (ob := [((IntKind.i64.wrap ((v4 : Int) + (1 : Int))) == (((v4 + 1) : Nat) : Int), true), ((decide (v16 < (0 : Int))), false), ((v12 == (0 : Int)), false), ((decide (v16 ≤ (0 : Int))), false), ((v11 != (5 : Int)), false)]) rfl (show 1 ∈ Zl (Zn 2) from by decide +kernel) (fun gv => by kernel_rfl) (Zb (beq_iff_eq.2 ((wrap_i64 ltA).trans (by first | rfl | omega))) <| oN <| oF <| oN <| oE Zf) rfl (by decide) (by rfl) (fun _ => ⟨rr, ⟨rr, ⟨rr, ⟨rr, ⟨rr, ⟨rr, ⟨rr, trivial⟩⟩⟩⟩⟩⟩⟩) ⟨(Zh (E := E_iiiiiiAi) (α := R_iiiiiiAi) _ L1 _), ⟨⟨rfl, ⟨[], by rfl⟩, by rfl⟩, ⟨⟨rfl, ⟨[], by rfl⟩, by rfl⟩, trivial⟩⟩⟩
     ·
      exact Mach.ok_none
 ·
  exact Mach.ok_none

theorem Zg6 (L0 : List RB) (L1 : List R_iiiiiiAi) (v1 : List RA) (v2 v3 v6 : Nat) (v13 v14 v15 v16 v17 v18 : Int) (N : Nat) : (Zg L0 L1 N).Ok Tryz.prog Zx (.h2m1 v1 v2 v3 v6 v13 v14 v15 v16 v17 v18 : Zc) (Zs L0 L1 N (.h2m1 v1 v2 v3 v6 v13 v14 v15 v16 v17 v18 : Zc)) := by
 show (Zg L0 L1 N).Ok Tryz.prog Zx (.h2m1 v1 v2 v3 v6 v13 v14 v15 v16 v17 v18 : Zc) (ZaG L0 L1 N v1 v2 v3 v6 v13 v14 v15 v16 v17 v18)
 unfold ZaG
 refine Mach.ok_ite (fun g0 => ?_) (fun g0 => ?_)
 ·
  refine Mach.ok_ite (fun g1 => ?_) (fun g1 => ?_)
  ·
   refine Mach.ok_ite (fun g2 => ?_) (fun g2 => ?_)
   ·
    refine Mach.ok_ite (fun g3 => ?_) (fun g3 => ?_)
    ·
     refine Mach.ok_ite (fun g4 => ?_) (fun g4 => ?_)
     ·
      refine Mach.ok_bind (fun z5 c5 => ?_)
      cases z5 with
      | r0 y5_0 y5_1 y5_2 y5_3 y5_4 y5_5 =>
       exact Mach.ok_next (M := Zg L0 L1 N) (cd := 1000000) (cm := 0) (y := (.h2m2 (v1) (1) ((v2 - 1)) (v3) (v6) (y5_0) (y5_1) (y5_2) (y5_3) (y5_4) (y5_5) (v13) (v14) (v15) (v16) (v17) (v18) : Zc)) (fu := 4000) (orc := (Zm [(0, true), (1, true)] [(0, (((v3 + 1) : Nat) : Int))] [(0, 0), (1, 0)] [(0, [.i (v1.getD 0 RA.z).a0]), (1, [.i (v1.getD 0 RA.z).a0, .i (v1.getD 0 RA.z).a1, .i (v1.getD 0 RA.z).a2])] [(0, (Zfd ((v1.getD 0 RA.z).a0) ((v1.getD 0 RA.z).a1) ((v1.getD 0 RA.z).a2) ((0 : Int)) ((0 : Int)) ((0 : Int)) ((0 : Int)) ((0 : Int)) ((0 : Int))  y5_0 y5_1 y5_2 y5_3 y5_4 y5_5 2 3 5)), (1, .sl 1 v2)])) (live := [0, 1, 2, 3, 4]) (tv := fun _ => [some (Value.slice (some ⟨1, (0 + (1 * 3)), none⟩) (v2 - 1) (v2 - 1)), some (vp 2 0), some (vp 3 0), some (Value.func (.func 12) #[] #[vp 2 0, vp 3 0]), some (vi (v3 : Int)), some (vp 4 0), some (ms E_iiiiii L0), some (vi (L0.length : Int)), some (vi (v6 : Int))]) (bl := [some (.cells (Zd E_iiiiiiAi L1) 31), some (.cells (Zd Zk v1) 45), some (.cells [vi y5_0, vi y5_1, vi y5_2] 45), some (.cells [vi y5_3, vi y5_4, vi y5_5] 45), some (.cells [vi v13, vi v14, vi v15, vi v16, vi v17, vi v18] 41)]) (ob := [(dP (1 ≤ v2 ∧ v2 ≤ v2), true), (dS v2, true), ((1 : Int) == Int.ofNat 1, true), (dP (Zd5 #[Value.agg #[vi (v1.getD 0 RA.z).a0, vi (v1.getD 0 RA.z).a1, vi (v1.getD 0 RA.z).a2], vp 2 0, vp 3 0] ((v1.getD 0 RA.z).a0) ((v1.getD 0 RA.z).a1) ((v1.getD 0 RA.z).a2) ((0 : Int)) ((0 : Int)) ((0 : Int)) ((0 : Int)) ((0 : Int)) ((0 : Int))  y5_0 y5_1 y5_2 y5_3 y5_4 y5_5 2 3 5), true), (dS [vq, vq, vq], true), (dS [vq, vq, vq], true), (ZO (Zv 3 (List.drop (0 + (0 * 3)) (Zd Zk v1))) [.i (v1.getD 0 RA.z).a0, .i (v1.getD 0 RA.z).a1, .i (v1.getD 0 RA.z).a2], true), (Nat.blt 0 v2, true), ((0 : Int) == Int.ofNat 0, true), ((decide ((v1.getD 0 RA.z).a0 ≤ (((v3 + 1) : Nat) : Int))), true), ((IntKind.i64.wrap ((v3 : Int) + (1 : Int))) == (((v3 + 1) : Nat) : Int), true), (ZO (Zv 1 (List.drop ((0 + (0 * 3)) + 0) (Zd Zk v1))) [.i (v1.getD 0 RA.z).a0], true), (Nat.blt 0 v2, true), ((0 : Int) == Int.ofNat 0, true), ((decide ((v2 : Int) > (0 : Int))), true)]) rfl (show 2 ∈ Zl (Zn 2) from by decide +kernel) (fun gv => by kernel_rfl) (Zb (Zw ⟨ltA, ltA⟩) <| oR <| oI <| Zb (Zw (Zfe #[Value.agg #[vi (v1.getD 0 RA.z).a0, vi (v1.getD 0 RA.z).a1, vi (v1.getD 0 RA.z).a2], vp 2 0, vp 3 0] ((v1.getD 0 RA.z).a0) ((v1.getD 0 RA.z).a1) ((v1.getD 0 RA.z).a2) ((0 : Int)) ((0 : Int)) ((0 : Int)) ((0 : Int)) ((0 : Int)) ((0 : Int))  y5_0 y5_1 y5_2 y5_3 y5_4 y5_5 N c5 2 3 5 rfl (by decide) (by decide))) <| Zb (Zw (Zat rfl (Zat rfl (Zat rfl rfl)))) <| Zb (Zw (Zat rfl (Zat rfl (Zat rfl rfl)))) <| Zb (Zy (E := Zk) (L := v1) (i := 0) (q := 0) (by omega) (show (0 + (0 * 3)) = 0 * 3 + 0 from by omega) (show 0 + 3 ≤ 3 from by decide) rfl rfl) <| oB <| oI <| oY <| Zb (beq_iff_eq.2 ((wrap_i64 ltA).trans (by first | rfl | omega))) <| Zb (Zy (E := Zk) (L := v1) (i := 0) (q := 0) (by omega) (show ((0 + (0 * 3)) + 0) = 0 * 3 + 0 from by omega) (show 0 + 1 ≤ 3 from by decide) rfl rfl) <| oB <| oI <| oY Zf) rfl (by decide) (by rfl) (fun _ => ⟨⟨Eq.trans (show (vs 1 (1 * 3) (v2 - 1) (v2 - 1) : Value) = Value.slice (some ⟨1, (0 + (1 * 3)), none⟩) (v2 - 1) (v2 - 1) from (ZdF eqA rfl rfl)) (by rfl), by rfl⟩, ⟨rr, ⟨rr, ⟨rr, ⟨rr, ⟨rr, ⟨rr, ⟨rr, ⟨rr, trivial⟩⟩⟩⟩⟩⟩⟩⟩⟩) ⟨(Zh (E := E_iiiiiiAi) (α := R_iiiiiiAi) _ L1 _), ⟨(Zh (E := Zk) (α := RA) _ v1 _), ⟨⟨rfl, ⟨[], by rfl⟩, by rfl⟩, ⟨⟨rfl, ⟨[], by rfl⟩, by rfl⟩, ⟨⟨rfl, ⟨[], by rfl⟩, by rfl⟩, trivial⟩⟩⟩⟩⟩
     ·
      by_cases g5 : ¬ (v13 = (5 : Int))
      ·
       by_cases g6 : ¬ (v13 = (10 : Int))
       ·
        refine Mach.ok_ite (fun g7 => ?_) (fun g7 => ?_)
        ·
         exact Mach.ok_next (M := Zg L0 L1 N) (cd := 1000000) (cm := 0) (y := (.h1m1 (v1) (v2) ((v6 + 1)) : Zc)) (fu := 4000) (orc := (Zm [(0, true), (1, false), (2, true), (3, true)] [(0, (((v3 + 1) : Nat) : Int)), (1, (((v6 + 1) : Nat) : Int))] [(0, 0)] [(0, [.i (v1.getD 0 RA.z).a0])] [])) (live := [0, 1, 2, 3]) (tv := fun _ => [some (vs 1 0 v2 v2), some (vp 2 0), some (vp 3 0), some (Value.func (.func 12) #[] #[vp 2 0, vp 3 0]), some (ms E_iiiiii L0), some (vi (L0.length : Int)), some (vi (((v6 + 1) : Nat) : Int))]) (bl := [some (.cells (Zd E_iiiiiiAi L1) 31), some (.cells (Zd Zk v1) 45), some (.cells [vq, vq, vq] 45), some (.cells [vq, vq, vq] 45)]) (ob := [((IntKind.i64.wrap ((v6 : Int) + (1 : Int))) == (((v6 + 1) : Nat) : Int), true), ((v13 != (10 : Int)), true), ((v13 != (5 : Int)), true), ((decide ((v1.getD 0 RA.z).a0 ≤ (((v3 + 1) : Nat) : Int))), false), ((IntKind.i64.wrap ((v3 : Int) + (1 : Int))) == (((v3 + 1) : Nat) : Int), true), (ZO (Zv 1 (List.drop ((0 + (0 * 3)) + 0) (Zd Zk v1))) [.i (v1.getD 0 RA.z).a0], true), (Nat.blt 0 v2, true), ((0 : Int) == Int.ofNat 0, true), ((decide ((v2 : Int) > (0 : Int))), true)]) rfl (show 1 ∈ Zl (Zn 2) from by decide +kernel) (fun gv => by kernel_rfl) (Zb (beq_iff_eq.2 ((wrap_i64 ltA).trans (by first | rfl | omega))) <| oD <| oD <| oN <| Zb (beq_iff_eq.2 ((wrap_i64 ltA).trans (by first | rfl | omega))) <| Zb (Zy (E := Zk) (L := v1) (i := 0) (q := 0) (by omega) (show ((0 + (0 * 3)) + 0) = 0 * 3 + 0 from by omega) (show 0 + 1 ≤ 3 from by decide) rfl rfl) <| oB <| oI <| oY Zf) rfl (by decide) (by rfl) (fun _ => ⟨rr, ⟨rr, ⟨rr, ⟨rr, ⟨rr, ⟨rr, ⟨rr, trivial⟩⟩⟩⟩⟩⟩⟩) ⟨(Zh (E := E_iiiiiiAi) (α := R_iiiiiiAi) _ L1 _), ⟨(Zh (E := Zk) (α := RA) _ v1 _), ⟨⟨rfl, ⟨[], by rfl⟩, by rfl⟩, ⟨⟨rfl, ⟨[], by rfl⟩, by rfl⟩, trivial⟩⟩⟩⟩
        ·
         exact Mach.ok_none
       ·
        by_cases g7 : v18 ≤ (0 : Int)
        ·
         refine Mach.ok_ite (fun g8 => ?_) (fun g8 => ?_)
         ·
          exact Mach.ok_next (M := Zg L0 L1 N) (cd := 1000000) (cm := 0) (y := (.h1m1 (v1) (v2) ((v6 + 1)) : Zc)) (fu := 4000) (orc := (Zm [(0, true), (1, false), (2, true), (3, false), (4, true)] [(0, (((v3 + 1) : Nat) : Int)), (1, (((v6 + 1) : Nat) : Int))] [(0, 0)] [(0, [.i (v1.getD 0 RA.z).a0])] [])) (live := [0, 1, 2, 3]) (tv := fun _ => [some (vs 1 0 v2 v2), some (vp 2 0), some (vp 3 0), some (Value.func (.func 12) #[] #[vp 2 0, vp 3 0]), some (ms E_iiiiii L0), some (vi (L0.length : Int)), some (vi (((v6 + 1) : Nat) : Int))]) (bl := [some (.cells (Zd E_iiiiiiAi L1) 31), some (.cells (Zd Zk v1) 45), some (.cells [vq, vq, vq] 45), some (.cells [vq, vq, vq] 45)]) (ob := [((IntKind.i64.wrap ((v6 : Int) + (1 : Int))) == (((v6 + 1) : Nat) : Int), true), ((decide (v18 ≤ (0 : Int))), true), ((v13 != (10 : Int)), false), ((v13 != (5 : Int)), true), ((decide ((v1.getD 0 RA.z).a0 ≤ (((v3 + 1) : Nat) : Int))), false), ((IntKind.i64.wrap ((v3 : Int) + (1 : Int))) == (((v3 + 1) : Nat) : Int), true), (ZO (Zv 1 (List.drop ((0 + (0 * 3)) + 0) (Zd Zk v1))) [.i (v1.getD 0 RA.z).a0], true), (Nat.blt 0 v2, true), ((0 : Int) == Int.ofNat 0, true), ((decide ((v2 : Int) > (0 : Int))), true)]) rfl (show 1 ∈ Zl (Zn 2) from by decide +kernel) (fun gv => by kernel_rfl) (Zb (beq_iff_eq.2 ((wrap_i64 ltA).trans (by first | rfl | omega))) <| oY <| oE <| oD <| oN <| Zb (beq_iff_eq.2 ((wrap_i64 ltA).trans (by first | rfl | omega))) <| Zb (Zy (E := Zk) (L := v1) (i := 0) (q := 0) (by omega) (show ((0 + (0 * 3)) + 0) = 0 * 3 + 0 from by omega) (show 0 + 1 ≤ 3 from by decide) rfl rfl) <| oB <| oI <| oY Zf) rfl (by decide) (by rfl) (fun _ => ⟨rr, ⟨rr, ⟨rr, ⟨rr, ⟨rr, ⟨rr, ⟨rr, trivial⟩⟩⟩⟩⟩⟩⟩) ⟨(Zh (E := E_iiiiiiAi) (α := R_iiiiiiAi) _ L1 _), ⟨(Zh (E := Zk) (α := RA) _ v1 _), ⟨⟨rfl, ⟨[], by rfl⟩, by rfl⟩, ⟨⟨rfl, ⟨[], by rfl⟩, by rfl⟩, trivial⟩⟩⟩⟩
         ·
          exact Mach.ok_none
        ·
         by_cases g8 : v14 = (0 : Int)
         ·
          refine Mach.ok_ite (fun g9 => ?_) (fun g9 => ?_)
          ·
           exact Mach.ok_next (M := Zg L0 L1 N) (cd := 1000000) (cm := 0) (y := (.h1m1 (v1) (v2) ((v6 + 1)) : Zc)) (fu := 4000) (orc := (Zm [(0, true), (1, false), (2, true), (3, false), (4, false), (5, true), (6, false)] [(0, (((v3 + 1) : Nat) : Int)), (1, (((v6 + 1) : Nat) : Int))] [(0, 0)] [(0, [.i (v1.getD 0 RA.z).a0])] [])) (live := [0, 1, 2, 3]) (tv := fun _ => [some (vs 1 0 v2 v2), some (vp 2 0), some (vp 3 0), some (Value.func (.func 12) #[] #[vp 2 0, vp 3 0]), some (ms E_iiiiii L0), some (vi (L0.length : Int)), some (vi (((v6 + 1) : Nat) : Int))]) (bl := [some (.cells (Zd E_iiiiiiAi L1) 31), some (.cells (Zd Zk v1) 45), some (.cells [vq, vq, vq] 45), some (.cells [vq, vq, vq] 45)]) (ob := [((IntKind.i64.wrap ((v6 : Int) + (1 : Int))) == (((v6 + 1) : Nat) : Int), true), ((decide (v18 < (0 : Int))), false), ((v14 == (0 : Int)), true), ((decide (v18 ≤ (0 : Int))), false), ((v13 != (10 : Int)), false), ((v13 != (5 : Int)), true), ((decide ((v1.getD 0 RA.z).a0 ≤ (((v3 + 1) : Nat) : Int))), false), ((IntKind.i64.wrap ((v3 : Int) + (1 : Int))) == (((v3 + 1) : Nat) : Int), true), (ZO (Zv 1 (List.drop ((0 + (0 * 3)) + 0) (Zd Zk v1))) [.i (v1.getD 0 RA.z).a0], true), (Nat.blt 0 v2, true), ((0 : Int) == Int.ofNat 0, true), ((decide ((v2 : Int) > (0 : Int))), true)]) rfl (show 1 ∈ Zl (Zn 2) from by decide +kernel) (fun gv => by kernel_rfl) (Zb (beq_iff_eq.2 ((wrap_i64 ltA).trans (by first | rfl | omega))) <| oN <| oT <| oN <| oE <| oD <| oN <| Zb (beq_iff_eq.2 ((wrap_i64 ltA).trans (by first | rfl | omega))) <| Zb (Zy (E := Zk) (L := v1) (i := 0) (q := 0) (by omega) (show ((0 + (0 * 3)) + 0) = 0 * 3 + 0 from by omega) (show 0 + 1 ≤ 3 from by decide) rfl rfl) <| oB <| oI <| oY Zf) rfl (by decide) (by rfl) (fun _ => ⟨rr, ⟨rr, ⟨rr, ⟨rr, ⟨rr, ⟨rr, ⟨rr, trivial⟩⟩⟩⟩⟩⟩⟩) ⟨(Zh (E := E_iiiiiiAi) (α := R_iiiiiiAi) _ L1 _), ⟨(Zh (E := Zk) (α := RA) _ v1 _), ⟨⟨rfl, ⟨[], by rfl⟩, by rfl⟩, ⟨⟨rfl, ⟨[], by rfl⟩, by rfl⟩, trivial⟩⟩⟩⟩
          ·
           exact Mach.ok_none
         ·
          refine Mach.ok_ite (fun g9 => ?_) (fun g9 => ?_)
          ·
           exact Mach.ok_next (M := Zg L0 L1 N) (cd := 1000000) (cm := 0) (y := (.h1m1 (v1) (v2) ((v6 + 1)) : Zc)) (fu := 4000) (orc := (Zm [(0, true), (1, false), (2, true), (3, false), (4, false), (5, false), (6, false)] [(0, (((v3 + 1) : Nat) : Int)), (1, (((v6 + 1) : Nat) : Int))] [(0, 0)] [(0, [.i (v1.getD 0 RA.z).a0])] [])) (live := [0, 1, 2, 3]) (tv := fun _ => [some (vs 1 0 v2 v2), some (vp 2 0), some (vp 3 0), some (Value.func (.func 12) #[] #[vp 2 0, vp 3 0]), some (ms E_iiiiii L0), some (vi (L0.length : Int)), some (vi (((v6 + 1) : Nat) : Int))]) (bl := [some (.cells (Zd E_iiiiiiAi L1) 31), some (.cells (Zd Zk v1) 45), some (.cells [vq, vq, vq] 45), some (.cells [vq, vq, vq] 45)]) (ob := [((IntKind.i64.wrap ((v6 : Int) + (1 : Int))) == (((v6 + 1) : Nat) : Int), true), ((decide (v18 < (0 : Int))), false), ((v14 == (0 : Int)), false), ((decide (v18 ≤ (0 : Int))), false), ((v13 != (10 : Int)), false), ((v13 != (5 : Int)), true), ((decide ((v1.getD 0 RA.z).a0 ≤ (((v3 + 1) : Nat) : Int))), false), ((IntKind.i64.wrap ((v3 : Int) + (1 : Int))) == (((v3 + 1) : Nat) : Int), true), (ZO (Zv 1 (List.drop ((0 + (0 * 3)) + 0) (Zd Zk v1))) [.i (v1.getD 0 RA.z).a0], true), (Nat.blt 0 v2, true), ((0 : Int) == Int.ofNat 0, true), ((decide ((v2 : Int) > (0 : Int))), true)]) rfl (show 1 ∈ Zl (Zn 2) from by decide +kernel) (fun gv => by kernel_rfl) (Zb (beq_iff_eq.2 ((wrap_i64 ltA).trans (by first | rfl | omega))) <| oN <| oF <| oN <| oE <| oD <| oN <| Zb (beq_iff_eq.2 ((wrap_i64 ltA).trans (by first | rfl | omega))) <| Zb (Zy (E := Zk) (L := v1) (i := 0) (q := 0) (by omega) (show ((0 + (0 * 3)) + 0) = 0 * 3 + 0 from by omega) (show 0 + 1 ≤ 3 from by decide) rfl rfl) <| oB <| oI <| oY Zf) rfl (by decide) (by rfl) (fun _ => ⟨rr, ⟨rr, ⟨rr, ⟨rr, ⟨rr, ⟨rr, ⟨rr, trivial⟩⟩⟩⟩⟩⟩⟩) ⟨(Zh (E := E_iiiiiiAi) (α := R_iiiiiiAi) _ L1 _), ⟨(Zh (E := Zk) (α := RA) _ v1 _), ⟨⟨rfl, ⟨[], by rfl⟩, by rfl⟩, ⟨⟨rfl, ⟨[], by rfl⟩, by rfl⟩, trivial⟩⟩⟩⟩
          ·
           exact Mach.ok_none
      ·
       by_cases g6 : v18 ≤ (0 : Int)
       ·
        refine Mach.ok_ite (fun g7 => ?_) (fun g7 => ?_)
        ·
         exact Mach.ok_next (M := Zg L0 L1 N) (cd := 1000000) (cm := 0) (y := (.h1m1 (v1) (v2) ((v6 + 1)) : Zc)) (fu := 4000) (orc := (Zm [(0, true), (1, false), (2, false), (3, true)] [(0, (((v3 + 1) : Nat) : Int)), (1, (((v6 + 1) : Nat) : Int))] [(0, 0)] [(0, [.i (v1.getD 0 RA.z).a0])] [])) (live := [0, 1, 2, 3]) (tv := fun _ => [some (vs 1 0 v2 v2), some (vp 2 0), some (vp 3 0), some (Value.func (.func 12) #[] #[vp 2 0, vp 3 0]), some (ms E_iiiiii L0), some (vi (L0.length : Int)), some (vi (((v6 + 1) : Nat) : Int))]) (bl := [some (.cells (Zd E_iiiiiiAi L1) 31), some (.cells (Zd Zk v1) 45), some (.cells [vq, vq, vq] 45), some (.cells [vq, vq, vq] 45)]) (ob := [((IntKind.i64.wrap ((v6 : Int) + (1 : Int))) == (((v6 + 1) : Nat) : Int), true), ((decide (v18 ≤ (0 : Int))), true), ((v13 != (5 : Int)), false), ((decide ((v1.getD 0 RA.z).a0 ≤ (((v3 + 1) : Nat) : Int))), false), ((IntKind.i64.wrap ((v3 : Int) + (1 : Int))) == (((v3 + 1) : Nat) : Int), true), (ZO (Zv 1 (List.drop ((0 + (0 * 3)) + 0) (Zd Zk v1))) [.i (v1.getD 0 RA.z).a0], true), (Nat.blt 0 v2, true), ((0 : Int) == Int.ofNat 0, true), ((decide ((v2 : Int) > (0 : Int))), true)]) rfl (show 1 ∈ Zl (Zn 2) from by decide +kernel) (fun gv => by kernel_rfl) (Zb (beq_iff_eq.2 ((wrap_i64 ltA).trans (by first | rfl | omega))) <| oY <| oE <| oN <| Zb (beq_iff_eq.2 ((wrap_i64 ltA).trans (by first | rfl | omega))) <| Zb (Zy (E := Zk) (L := v1) (i := 0) (q := 0) (by omega) (show ((0 + (0 * 3)) + 0) = 0 * 3 + 0 from by omega) (show 0 + 1 ≤ 3 from by decide) rfl rfl) <| oB <| oI <| oY Zf) rfl (by decide) (by rfl) (fun _ => ⟨rr, ⟨rr, ⟨rr, ⟨rr, ⟨rr, ⟨rr, ⟨rr, trivial⟩⟩⟩⟩⟩⟩⟩) ⟨(Zh (E := E_iiiiiiAi) (α := R_iiiiiiAi) _ L1 _), ⟨(Zh (E := Zk) (α := RA) _ v1 _), ⟨⟨rfl, ⟨[], by rfl⟩, by rfl⟩, ⟨⟨rfl, ⟨[], by rfl⟩, by rfl⟩, trivial⟩⟩⟩⟩
        ·
         exact Mach.ok_none
       ·
        by_cases g7 : v14 = (0 : Int)
        ·
         refine Mach.ok_ite (fun g8 => ?_) (fun g8 => ?_)
         ·
          exact Mach.ok_next (M := Zg L0 L1 N) (cd := 1000000) (cm := 0) (y := (.h1m1 (v1) (v2) ((v6 + 1)) : Zc)) (fu := 4000) (orc := (Zm [(0, true), (1, false), (2, false), (3, false), (4, true), (5, false)] [(0, (((v3 + 1) : Nat) : Int)), (1, (((v6 + 1) : Nat) : Int))] [(0, 0)] [(0, [.i (v1.getD 0 RA.z).a0])] [])) (live := [0, 1, 2, 3]) (tv := fun _ => [some (vs 1 0 v2 v2), some (vp 2 0), some (vp 3 0), some (Value.func (.func 12) #[] #[vp 2 0, vp 3 0]), some (ms E_iiiiii L0), some (vi (L0.length : Int)), some (vi (((v6 + 1) : Nat) : Int))]) (bl := [some (.cells (Zd E_iiiiiiAi L1) 31), some (.cells (Zd Zk v1) 45), some (.cells [vq, vq, vq] 45), some (.cells [vq, vq, vq] 45)]) (ob := [((IntKind.i64.wrap ((v6 : Int) + (1 : Int))) == (((v6 + 1) : Nat) : Int), true), ((decide (v18 < (0 : Int))), false), ((v14 == (0 : Int)), true), ((decide (v18 ≤ (0 : Int))), false), ((v13 != (5 : Int)), false), ((decide ((v1.getD 0 RA.z).a0 ≤ (((v3 + 1) : Nat) : Int))), false), ((IntKind.i64.wrap ((v3 : Int) + (1 : Int))) == (((v3 + 1) : Nat) : Int), true), (ZO (Zv 1 (List.drop ((0 + (0 * 3)) + 0) (Zd Zk v1))) [.i (v1.getD 0 RA.z).a0], true), (Nat.blt 0 v2, true), ((0 : Int) == Int.ofNat 0, true), ((decide ((v2 : Int) > (0 : Int))), true)]) rfl (show 1 ∈ Zl (Zn 2) from by decide +kernel) (fun gv => by kernel_rfl) (Zb (beq_iff_eq.2 ((wrap_i64 ltA).trans (by first | rfl | omega))) <| oN <| oT <| oN <| oE <| oN <| Zb (beq_iff_eq.2 ((wrap_i64 ltA).trans (by first | rfl | omega))) <| Zb (Zy (E := Zk) (L := v1) (i := 0) (q := 0) (by omega) (show ((0 + (0 * 3)) + 0) = 0 * 3 + 0 from by omega) (show 0 + 1 ≤ 3 from by decide) rfl rfl) <| oB <| oI <| oY Zf) rfl (by decide) (by rfl) (fun _ => ⟨rr, ⟨rr, ⟨rr, ⟨rr, ⟨rr, ⟨rr, ⟨rr, trivial⟩⟩⟩⟩⟩⟩⟩) ⟨(Zh (E := E_iiiiiiAi) (α := R_iiiiiiAi) _ L1 _), ⟨(Zh (E := Zk) (α := RA) _ v1 _), ⟨⟨rfl, ⟨[], by rfl⟩, by rfl⟩, ⟨⟨rfl, ⟨[], by rfl⟩, by rfl⟩, trivial⟩⟩⟩⟩
         ·
          exact Mach.ok_none
        ·
         refine Mach.ok_ite (fun g8 => ?_) (fun g8 => ?_)
         ·
          exact Mach.ok_next (M := Zg L0 L1 N) (cd := 1000000) (cm := 0) (y := (.h1m1 (v1) (v2) ((v6 + 1)) : Zc)) (fu := 4000) (orc := (Zm [(0, true), (1, false), (2, false), (3, false), (4, false), (5, false)] [(0, (((v3 + 1) : Nat) : Int)), (1, (((v6 + 1) : Nat) : Int))] [(0, 0)] [(0, [.i (v1.getD 0 RA.z).a0])] [])) (live := [0, 1, 2, 3]) (tv := fun _ => [some (vs 1 0 v2 v2), some (vp 2 0), some (vp 3 0), some (Value.func (.func 12) #[] #[vp 2 0, vp 3 0]), some (ms E_iiiiii L0), some (vi (L0.length : Int)), some (vi (((v6 + 1) : Nat) : Int))]) (bl := [some (.cells (Zd E_iiiiiiAi L1) 31), some (.cells (Zd Zk v1) 45), some (.cells [vq, vq, vq] 45), some (.cells [vq, vq, vq] 45)]) (ob := [((IntKind.i64.wrap ((v6 : Int) + (1 : Int))) == (((v6 + 1) : Nat) : Int), true), ((decide (v18 < (0 : Int))), false), ((v14 == (0 : Int)), false), ((decide (v18 ≤ (0 : Int))), false), ((v13 != (5 : Int)), false), ((decide ((v1.getD 0 RA.z).a0 ≤ (((v3 + 1) : Nat) : Int))), false), ((IntKind.i64.wrap ((v3 : Int) + (1 : Int))) == (((v3 + 1) : Nat) : Int), true), (ZO (Zv 1 (List.drop ((0 + (0 * 3)) + 0) (Zd Zk v1))) [.i (v1.getD 0 RA.z).a0], true), (Nat.blt 0 v2, true), ((0 : Int) == Int.ofNat 0, true), ((decide ((v2 : Int) > (0 : Int))), true)]) rfl (show 1 ∈ Zl (Zn 2) from by decide +kernel) (fun gv => by kernel_rfl) (Zb (beq_iff_eq.2 ((wrap_i64 ltA).trans (by first | rfl | omega))) <| oN <| oF <| oN <| oE <| oN <| Zb (beq_iff_eq.2 ((wrap_i64 ltA).trans (by first | rfl | omega))) <| Zb (Zy (E := Zk) (L := v1) (i := 0) (q := 0) (by omega) (show ((0 + (0 * 3)) + 0) = 0 * 3 + 0 from by omega) (show 0 + 1 ≤ 3 from by decide) rfl rfl) <| oB <| oI <| oY Zf) rfl (by decide) (by rfl) (fun _ => ⟨rr, ⟨rr, ⟨rr, ⟨rr, ⟨rr, ⟨rr, ⟨rr, trivial⟩⟩⟩⟩⟩⟩⟩) ⟨(Zh (E := E_iiiiiiAi) (α := R_iiiiiiAi) _ L1 _), ⟨(Zh (E := Zk) (α := RA) _ v1 _), ⟨⟨rfl, ⟨[], by rfl⟩, by rfl⟩, ⟨⟨rfl, ⟨[], by rfl⟩, by rfl⟩, trivial⟩⟩⟩⟩
         ·
          exact Mach.ok_none
    ·
     exact Mach.ok_none
   ·
    exact Mach.ok_none
  ·
   by_cases g2 : ¬ (v13 = (5 : Int))
   ·
    by_cases g3 : ¬ (v13 = (10 : Int))
    ·
     refine Mach.ok_ite (fun g4 => ?_) (fun g4 => ?_)
     ·
      exact Mach.ok_next (M := Zg L0 L1 N) (cd := 1000000) (cm := 0) (y := (.h1m1 (v1) (v2) ((v6 + 1)) : Zc)) (fu := 4000) (orc := (Zm [(0, false), (1, true), (2, true)] [(0, (((v6 + 1) : Nat) : Int))] [] [] [])) (live := [0, 1, 2, 3]) (tv := fun _ => [some (vs 1 0 v2 v2), some (vp 2 0), some (vp 3 0), some (Value.func (.func 12) #[] #[vp 2 0, vp 3 0]), some (ms E_iiiiii L0), some (vi (L0.length : Int)), some (vi (((v6 + 1) : Nat) : Int))]) (bl := [some (.cells (Zd E_iiiiiiAi L1) 31), some (.cells (Zd Zk v1) 45), some (.cells [vq, vq, vq] 45), some (.cells [vq, vq, vq] 45)]) (ob := [((IntKind.i64.wrap ((v6 : Int) + (1 : Int))) == (((v6 + 1) : Nat) : Int), true), ((v13 != (10 : Int)), true), ((v13 != (5 : Int)), true), ((decide ((v2 : Int) > (0 : Int))), false)]) rfl (show 1 ∈ Zl (Zn 2) from by decide +kernel) (fun gv => by kernel_rfl) (Zb (beq_iff_eq.2 ((wrap_i64 ltA).trans (by first | rfl | omega))) <| oD <| oD <| oN Zf) rfl (by decide) (by rfl) (fun _ => ⟨rr, ⟨rr, ⟨rr, ⟨rr, ⟨rr, ⟨rr, ⟨rr, trivial⟩⟩⟩⟩⟩⟩⟩) ⟨(Zh (E := E_iiiiiiAi) (α := R_iiiiiiAi) _ L1 _), ⟨(Zh (E := Zk) (α := RA) _ v1 _), ⟨⟨rfl, ⟨[], by rfl⟩, by rfl⟩, ⟨⟨rfl, ⟨[], by rfl⟩, by rfl⟩, trivial⟩⟩⟩⟩
     ·
      exact Mach.ok_none
    ·
     by_cases g4 : v18 ≤ (0 : Int)
     ·
      refine Mach.ok_ite (fun g5 => ?_) (fun g5 => ?_)
      ·
       exact Mach.ok_next (M := Zg L0 L1 N) (cd := 1000000) (cm := 0) (y := (.h1m1 (v1) (v2) ((v6 + 1)) : Zc)) (fu := 4000) (orc := (Zm [(0, false), (1, true), (2, false), (3, true)] [(0, (((v6 + 1) : Nat) : Int))] [] [] [])) (live := [0, 1, 2, 3]) (tv := fun _ => [some (vs 1 0 v2 v2), some (vp 2 0), some (vp 3 0), some (Value.func (.func 12) #[] #[vp 2 0, vp 3 0]), some (ms E_iiiiii L0), some (vi (L0.length : Int)), some (vi (((v6 + 1) : Nat) : Int))]) (bl := [some (.cells (Zd E_iiiiiiAi L1) 31), some (.cells (Zd Zk v1) 45), some (.cells [vq, vq, vq] 45), some (.cells [vq, vq, vq] 45)]) (ob := [((IntKind.i64.wrap ((v6 : Int) + (1 : Int))) == (((v6 + 1) : Nat) : Int), true), ((decide (v18 ≤ (0 : Int))), true), ((v13 != (10 : Int)), false), ((v13 != (5 : Int)), true), ((decide ((v2 : Int) > (0 : Int))), false)]) rfl (show 1 ∈ Zl (Zn 2) from by decide +kernel) (fun gv => by kernel_rfl) (Zb (beq_iff_eq.2 ((wrap_i64 ltA).trans (by first | rfl | omega))) <| oY <| oE <| oD <| oN Zf) rfl (by decide) (by rfl) (fun _ => ⟨rr, ⟨rr, ⟨rr, ⟨rr, ⟨rr, ⟨rr, ⟨rr, trivial⟩⟩⟩⟩⟩⟩⟩) ⟨(Zh (E := E_iiiiiiAi) (α := R_iiiiiiAi) _ L1 _), ⟨(Zh (E := Zk) (α := RA) _ v1 _), ⟨⟨rfl, ⟨[], by rfl⟩, by rfl⟩, ⟨⟨rfl, ⟨[], by rfl⟩, by rfl⟩, trivial⟩⟩⟩⟩
      ·
       exact Mach.ok_none
     ·
      by_cases g5 : v14 = (0 : Int)
      ·
       refine Mach.ok_ite (fun g6 => ?_) (fun g6 => ?_)
       ·
        exact Mach.ok_next (M := Zg L0 L1 N) (cd := 1000000) (cm := 0) (y := (.h1m1 (v1) (v2) ((v6 + 1)) : Zc)) (fu := 4000) (orc := (Zm [(0, false), (1, true), (2, false), (3, false), (4, true), (5, false)] [(0, (((v6 + 1) : Nat) : Int))] [] [] [])) (live := [0, 1, 2, 3]) (tv := fun _ => [some (vs 1 0 v2 v2), some (vp 2 0), some (vp 3 0), some (Value.func (.func 12) #[] #[vp 2 0, vp 3 0]), some (ms E_iiiiii L0), some (vi (L0.length : Int)), some (vi (((v6 + 1) : Nat) : Int))]) (bl := [some (.cells (Zd E_iiiiiiAi L1) 31), some (.cells (Zd Zk v1) 45), some (.cells [vq, vq, vq] 45), some (.cells [vq, vq, vq] 45)]) (ob := [((IntKind.i64.wrap ((v6 : Int) + (1 : Int))) == (((v6 + 1) : Nat) : Int), true), ((decide (v18 < (0 : Int))), false), ((v14 == (0 : Int)), true), ((decide (v18 ≤ (0 : Int))), false), ((v13 != (10 : Int)), false), ((v13 != (5 : Int)), true), ((decide ((v2 : Int) > (0 : Int))), false)]) rfl (show 1 ∈ Zl (Zn 2) from by decide +kernel) (fun gv => by kernel_rfl) (Zb (beq_iff_eq.2 ((wrap_i64 ltA).trans (by first | rfl | omega))) <| oN <| oT <| oN <| oE <| oD <| oN Zf) rfl (by decide) (by rfl) (fun _ => ⟨rr, ⟨rr, ⟨rr, ⟨rr, ⟨rr, ⟨rr, ⟨rr, trivial⟩⟩⟩⟩⟩⟩⟩) ⟨(Zh (E := E_iiiiiiAi) (α := R_iiiiiiAi) _ L1 _), ⟨(Zh (E := Zk) (α := RA) _ v1 _), ⟨⟨rfl, ⟨[], by rfl⟩, by rfl⟩, ⟨⟨rfl, ⟨[], by rfl⟩, by rfl⟩, trivial⟩⟩⟩⟩
       ·
        exact Mach.ok_none
      ·
       refine Mach.ok_ite (fun g6 => ?_) (fun g6 => ?_)
       ·
        exact Mach.ok_next (M := Zg L0 L1 N) (cd := 1000000) (cm := 0) (y := (.h1m1 (v1) (v2) ((v6 + 1)) : Zc)) (fu := 4000) (orc := (Zm [(0, false), (1, true), (2, false), (3, false), (4, false), (5, false)] [(0, (((v6 + 1) : Nat) : Int))] [] [] [])) (live := [0, 1, 2, 3]) (tv := fun _ => [some (vs 1 0 v2 v2), some (vp 2 0), some (vp 3 0), some (Value.func (.func 12) #[] #[vp 2 0, vp 3 0]), some (ms E_iiiiii L0), some (vi (L0.length : Int)), some (vi (((v6 + 1) : Nat) : Int))]) (bl := [some (.cells (Zd E_iiiiiiAi L1) 31), some (.cells (Zd Zk v1) 45), some (.cells [vq, vq, vq] 45), some (.cells [vq, vq, vq] 45)]) (ob := [((IntKind.i64.wrap ((v6 : Int) + (1 : Int))) == (((v6 + 1) : Nat) : Int), true), ((decide (v18 < (0 : Int))), false), ((v14 == (0 : Int)), false), ((decide (v18 ≤ (0 : Int))), false), ((v13 != (10 : Int)), false), ((v13 != (5 : Int)), true), ((decide ((v2 : Int) > (0 : Int))), false)]) rfl (show 1 ∈ Zl (Zn 2) from by decide +kernel) (fun gv => by kernel_rfl) (Zb (beq_iff_eq.2 ((wrap_i64 ltA).trans (by first | rfl | omega))) <| oN <| oF <| oN <| oE <| oD <| oN Zf) rfl (by decide) (by rfl) (fun _ => ⟨rr, ⟨rr, ⟨rr, ⟨rr, ⟨rr, ⟨rr, ⟨rr, trivial⟩⟩⟩⟩⟩⟩⟩) ⟨(Zh (E := E_iiiiiiAi) (α := R_iiiiiiAi) _ L1 _), ⟨(Zh (E := Zk) (α := RA) _ v1 _), ⟨⟨rfl, ⟨[], by rfl⟩, by rfl⟩, ⟨⟨rfl, ⟨[], by rfl⟩, by rfl⟩, trivial⟩⟩⟩⟩
       ·
        exact Mach.ok_none
   ·
    by_cases g3 : v18 ≤ (0 : Int)
    ·
     refine Mach.ok_ite (fun g4 => ?_) (fun g4 => ?_)
     ·
      exact Mach.ok_next (M := Zg L0 L1 N) (cd := 1000000) (cm := 0) (y := (.h1m1 (v1) (v2) ((v6 + 1)) : Zc)) (fu := 4000) (orc := (Zm [(0, false), (1, false), (2, true)] [(0, (((v6 + 1) : Nat) : Int))] [] [] [])) (live := [0, 1, 2, 3]) (tv := fun _ => [some (vs 1 0 v2 v2), some (vp 2 0), some (vp 3 0), some (Value.func (.func 12) #[] #[vp 2 0, vp 3 0]), some (ms E_iiiiii L0), some (vi (L0.length : Int)), some (vi (((v6 + 1) : Nat) : Int))]) (bl := [some (.cells (Zd E_iiiiiiAi L1) 31), some (.cells (Zd Zk v1) 45), some (.cells [vq, vq, vq] 45), some (.cells [vq, vq, vq] 45)]) (ob := [((IntKind.i64.wrap ((v6 : Int) + (1 : Int))) == (((v6 + 1) : Nat) : Int), true), ((decide (v18 ≤ (0 : Int))), true), ((v13 != (5 : Int)), false), ((decide ((v2 : Int) > (0 : Int))), false)]) rfl (show 1 ∈ Zl (Zn 2) from by decide +kernel) (fun gv => by kernel_rfl) (Zb (beq_iff_eq.2 ((wrap_i64 ltA).trans (by first | rfl | omega))) <| oY <| oE <| oN Zf) rfl (by decide) (by rfl) (fun _ => ⟨rr, ⟨rr, ⟨rr, ⟨rr, ⟨rr, ⟨rr, ⟨rr, trivial⟩⟩⟩⟩⟩⟩⟩) ⟨(Zh (E := E_iiiiiiAi) (α := R_iiiiiiAi) _ L1 _), ⟨(Zh (E := Zk) (α := RA) _ v1 _), ⟨⟨rfl, ⟨[], by rfl⟩, by rfl⟩, ⟨⟨rfl, ⟨[], by rfl⟩, by rfl⟩, trivial⟩⟩⟩⟩
     ·
      exact Mach.ok_none
    ·
     by_cases g4 : v14 = (0 : Int)
     ·
      refine Mach.ok_ite (fun g5 => ?_) (fun g5 => ?_)
      ·
       exact Mach.ok_next (M := Zg L0 L1 N) (cd := 1000000) (cm := 0) (y := (.h1m1 (v1) (v2) ((v6 + 1)) : Zc)) (fu := 4000) (orc := (Zm [(0, false), (1, false), (2, false), (3, true), (4, false)] [(0, (((v6 + 1) : Nat) : Int))] [] [] [])) (live := [0, 1, 2, 3]) (tv := fun _ => [some (vs 1 0 v2 v2), some (vp 2 0), some (vp 3 0), some (Value.func (.func 12) #[] #[vp 2 0, vp 3 0]), some (ms E_iiiiii L0), some (vi (L0.length : Int)), some (vi (((v6 + 1) : Nat) : Int))]) (bl := [some (.cells (Zd E_iiiiiiAi L1) 31), some (.cells (Zd Zk v1) 45), some (.cells [vq, vq, vq] 45), some (.cells [vq, vq, vq] 45)]) (ob := [((IntKind.i64.wrap ((v6 : Int) + (1 : Int))) == (((v6 + 1) : Nat) : Int), true), ((decide (v18 < (0 : Int))), false), ((v14 == (0 : Int)), true), ((decide (v18 ≤ (0 : Int))), false), ((v13 != (5 : Int)), false), ((decide ((v2 : Int) > (0 : Int))), false)]) rfl (show 1 ∈ Zl (Zn 2) from by decide +kernel) (fun gv => by kernel_rfl) (Zb (beq_iff_eq.2 ((wrap_i64 ltA).trans (by first | rfl | omega))) <| oN <| oT <| oN <| oE <| oN Zf) rfl (by decide) (by rfl) (fun _ => ⟨rr, ⟨rr, ⟨rr, ⟨rr, ⟨rr, ⟨rr, ⟨rr, trivial⟩⟩⟩⟩⟩⟩⟩) ⟨(Zh (E := E_iiiiiiAi) (α := R_iiiiiiAi) _ L1 _), ⟨(Zh (E := Zk) (α := RA) _ v1 _), ⟨⟨rfl, ⟨[], by rfl⟩, by rfl⟩, ⟨⟨rfl, ⟨[], by rfl⟩, by rfl⟩, trivial⟩⟩⟩⟩
      ·
       exact Mach.ok_none
     ·
      refine Mach.ok_ite (fun g5 => ?_) (fun g5 => ?_)
      ·
       exact Mach.ok_next (M := Zg L0 L1 N) (cd := 1000000) (cm := 0) (y := (.h1m1 (v1) (v2) ((v6 + 1)) : Zc)) (fu := 4000) (orc := (Zm [(0, false), (1, false), (2, false), (3, false), (4, false)] [(0, (((v6 + 1) : Nat) : Int))] [] [] [])) (live := [0, 1, 2, 3]) (tv := fun _ => [some (vs 1 0 v2 v2), some (vp 2 0), some (vp 3 0), some (Value.func (.func 12) #[] #[vp 2 0, vp 3 0]), some (ms E_iiiiii L0), some (vi (L0.length : Int)), some (vi (((v6 + 1) : Nat) : Int))]) (bl := [some (.cells (Zd E_iiiiiiAi L1) 31), some (.cells (Zd Zk v1) 45), some (.cells [vq, vq, vq] 45), some (.cells [vq, vq, vq] 45)]) (ob := [((IntKind.i64.wrap ((v6 : Int) + (1 : Int))) == (((v6 + 1) : Nat) : Int), true), ((decide (v18 < (0 : Int))), false), ((v14 == (0 : Int)), false), ((decide (v18 ≤ (0 : Int))), false), ((v13 != (5 : Int)), false), ((decide ((v2 : Int) > (0 : Int))), false)]) rfl (show 1 ∈ Zl (Zn 2) from by decide +kernel) (fun gv => by kernel_rfl) (Zb (beq_iff_eq.2 ((wrap_i64 ltA).trans (by first | rfl | omega))) <| oN <| oF <| oN <| oE <| oN Zf) rfl (by decide) (by rfl) (fun _ => ⟨rr, ⟨rr, ⟨rr, ⟨rr, ⟨rr, ⟨rr, ⟨rr, trivial⟩⟩⟩⟩⟩⟩⟩) ⟨(Zh (E := E_iiiiiiAi) (α := R_iiiiiiAi) _ L1 _), ⟨(Zh (E := Zk) (α := RA) _ v1 _), ⟨⟨rfl, ⟨[], by rfl⟩, by rfl⟩, ⟨⟨rfl, ⟨[], by rfl⟩, by rfl⟩, trivial⟩⟩⟩⟩
      ·
       exact Mach.ok_none
 ·
  exact Mach.ok_none

end Ev
end Go.Proofs.YtgdboobcomomdaaGreat
